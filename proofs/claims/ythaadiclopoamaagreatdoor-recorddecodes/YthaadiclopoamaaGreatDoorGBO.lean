/- Parts of these proofs, laid together. -/
import Derived.Test.YthaadiclopoamaaGreatDoorGE
import Derived.BigQuiet
import Derived.Test.YthaadiclopoamaaGreatDoorGBF
import Derived.Test.YthaadiclopoamaaGreatDoorGD
/- The document's blanks, and Same. -/
set_option maxRecDepth 100000
set_option maxHeartbeats 8000000
namespace Go.Proofs.YthaadiclopoamaaGreatDoor
open Go.RowKit
open Lex (Tok blkB remB run)

/- how many bytes of blanks stand at the beginning -/
def blN (l : List UInt8) : Nat := match l with
 | [] => 0
 | b :: t => if blkB b = true then 1 else if (b.toNat : Int) = 35 then run remB (b :: t) else 0

theorem refBlank_any (s : ByteArray) (k : Nat) (w : World) (hk : k < s.size) (hs : s.size <= 2000) : Calls Tryz.prog 136 #[.string s, .int .i64 (k : Int)] w fun e w' => e = .returned (.int .i64 ((blN (s.data.toList.drop k) : Nat) : Int)) /\ w' = w := by
 have hl : s.data.toList.length = s.size := by simp
 have hdr : s.data.toList.drop k = (s[k]'hk) :: s.data.toList.drop (k + 1) := Lex.drop_get s.data.toList k (by omega)
 have HB : Hid (blN (s.data.toList.drop k) = if blkB (s[k]'hk) = true then 1 else if ((s[k]'hk).toNat : Int) = 35 then run remB (s.data.toList.drop k) else 0) := by show _ = _; rw [hdr]; rfl
 by_cases h32 : ((s[k]'hk).toNat : Int) = 32
 ·have hb : blkB (s[k]'hk) = true := by unfold Lex.blkB; rw [decide_eq_true h32]; rfl
  rw [hb, if_pos rfl] at HB
  have e : (((s[k]'hk).toNat : Int) == 32) = true := by simpa using h32
  clear h32 hdr hb
  rw [HB.out]
  go_enter Tryz.func136, Tryz.ntmps136
  go_wp2
  go_ret
  exact ⟨rfl, rfl⟩
 have e0 : (((s[k]'hk).toNat : Int) == 32) = false := by simpa using h32
 by_cases h9 : ((s[k]'hk).toNat : Int) = 9
 ·have hb : blkB (s[k]'hk) = true := by unfold Lex.blkB; rw [decide_eq_true h9]; simp
  rw [hb, if_pos rfl] at HB
  have e : (((s[k]'hk).toNat : Int) == 9) = true := by simpa using h9
  clear h32 h9 hdr hb
  rw [HB.out]
  go_enter Tryz.func136, Tryz.ntmps136
  go_wp2
  go_ret
  exact ⟨rfl, rfl⟩
 have e1 : (((s[k]'hk).toNat : Int) == 9) = false := by simpa using h9
 by_cases h10 : ((s[k]'hk).toNat : Int) = 10
 ·have hb : blkB (s[k]'hk) = true := by unfold Lex.blkB; rw [decide_eq_true h10]; simp
  rw [hb, if_pos rfl] at HB
  have e : (((s[k]'hk).toNat : Int) == 10) = true := by simpa using h10
  clear h32 h9 h10 hdr hb
  rw [HB.out]
  go_enter Tryz.func136, Tryz.ntmps136
  go_wp2
  go_ret
  exact ⟨rfl, rfl⟩
 have e2 : (((s[k]'hk).toNat : Int) == 10) = false := by simpa using h10
 have hb : blkB (s[k]'hk) = false := by unfold Lex.blkB; rw [decide_eq_false h32, decide_eq_false h9, decide_eq_false h10]; rfl
 rw [hb, if_neg (by simp)] at HB
 by_cases h35 : ((s[k]'hk).toNat : Int) = 35
 ·rw [if_pos h35] at HB
  have e : (((s[k]'hk).toNat : Int) != 35) = false := by simpa using h35
  have HR : Hid (∀ m, m <= s.size - k -> (∀ j (hj : k + j < s.size), j < m -> remB (s[k + j]'hj) = true) -> (∀ hm : k + m < s.size, remB (s[k + m]'hm) = false) -> run remB (s.data.toList.drop k) = m) := by
   intro m hm ha he
   exact Lex.run_eq remB (s.data.toList.drop k) m (by rw [List.length_drop, hl]; omega) (fun j hj hlt => by rw [List.getElem_drop]; exact ha j (by rw [List.length_drop, hl] at hj; omega) hlt) (fun hlt => by rw [List.getElem_drop]; rw [List.length_drop, hl] at hlt; exact he (by omega))
  clear h32 h9 h10 h35 hdr hb
  rw [HB.out]
  generalize run remB (s.data.toList.drop k) = R at *
  go_enter Tryz.func136, Tryz.ntmps136
  go_wp2
  go_loop [5] (fun i => ∃ m : Nat, m <= s.size - k /\ i = .int .i64 (m : Int) /\ ∀ j (hj : k + j < s.size), j < m -> remB (s[k + j]'hj) = true) (fun i => s.size - (intOf i).toNat)
  case atStart => exact ⟨0, by omega, rfl, fun j hj h => absurd h (by omega)⟩
  case round =>
   obtain ⟨m, hm, rfl, hall⟩ := hrel
   have HA : Hid (∀ j (hj : k + j < s.size), j < m -> remB (s[k + j]'hj) = true) := hall
   clear hall
   have hw1 : wrap64 ((k : Int) + (m : Int)) = ((k + m : Nat) : Int) := by unfold wrap64; omega
   by_cases hlt : k + m < s.size
   ·by_cases hn : ((s[k + m]'hlt).toNat : Int) = 10
    ·have HE : Hid (R = m) := HR.out m hm HA.out (fun _ => by unfold Lex.remB; rw [decide_eq_true hn]; rfl)
     have e3 : (((s[k + m]'hlt).toNat : Int) != 10) = false := by simpa using hn
     clear hn
     go_wp2
     go_ret
     exact ⟨by rw [HE.out]; rfl, rfl⟩
    ·have HS : Hid (remB (s[k + m]'hlt) = true) := by show _ = _; unfold Lex.remB; rw [decide_eq_false hn]; rfl
     have e3 : (((s[k + m]'hlt).toNat : Int) != 10) = true := by simpa using hn
     clear hn
     go_wp2
     go_round
     case rel => exact ⟨m + 1, by omega, by go_num, fun j hj h => if e : j = m then by subst e; exact HS.out else HA.out j hj (by omega)⟩
     case measure => simp [intOf]; omega
   ·have HE : Hid (R = m) := HR.out m hm HA.out (fun h => absurd h hlt)
    go_wp2
    go_ret
    exact ⟨by rw [HE.out]; rfl, rfl⟩
 ·rw [if_neg h35] at HB
  have e : (((s[k]'hk).toNat : Int) != 35) = true := by simpa using h35
  clear h32 h9 h10 h35 hdr hb
  rw [HB.out]
  go_enter Tryz.func136, Tryz.ntmps136
  go_wp2
  go_ret
  exact ⟨rfl, rfl⟩

end Go.Proofs.YthaadiclopoamaaGreatDoor
/- The document's Parse. -/
set_option maxRecDepth 100000
set_option maxHeartbeats 8000000
namespace Go.Proofs.YthaadiclopoamaaGreatDoor
open Go.RowKit

theorem toList_dat3 (s : ByteArray) : s.toList = s.data.toList := ByteArray.toList_eq s
theorem loop_stop (l : List UInt8) (f k : Nat) (ok : Bool) (hs : List (Int × Int)) (h : f = 0 ∨ ¬ (ok = true /\ k < l.length)) : loopR l f k ok hs = some (hs, ok) := by
 cases f with
 | zero => rfl
 | succ f =>
  rcases h with h | h
  ·omega
  ·rw [loopR, if_neg h]
theorem refI_none (l : List UInt8) (h : nB l 0 = false ∨ nT l 0 = l.length) : refP l = none := by
 unfold refP refI; rw [if_pos h]
def ansR (l : List UInt8) (r n : Int) : Option (List (Int × Int) × Bool) -> Option (Int × Int × List (Int × Int))
 | none => none
 | some (hs, ok) => if goodB l (r, n, hs, ok) = true then some (r, n, hs) else none
theorem refI_some (l : List UInt8) (h : ¬ (nB l 0 = false ∨ nT l 0 = l.length)) :
  refP l = ansR l (nV l 0) (nV l (nT l 0 + 1)) (loopR l 5 (nT l (nT l 0 + 1)) (nB l (nT l 0 + 1)) []) := by
 unfold refP refI
 rw [if_neg h]
 cases loopR l 5 (nT l (nT l 0 + 1)) (nB l (nT l 0 + 1)) [] with
 | none => rfl
 | some p => obtain ⟨hs, ok⟩ := p; rfl
theorem loop_none (l : List UInt8) (f k : Nat) (hs : List (Int × Int)) (hk : k < l.length) (h : nB l (k + 1) = false ∨ nT l (k + 1) = l.length) : loopR l (f + 1) k true hs = none := by
 rw [loopR, if_pos ⟨rfl, hk⟩, if_pos h]
theorem loop_next (l : List UInt8) (f k : Nat) (hs : List (Int × Int)) (hk : k < l.length) (h : ¬ (nB l (k + 1) = false ∨ nT l (k + 1) = l.length)) :
  loopR l (f + 1) k true hs = loopR l f (nT l (nT l (k + 1) + 1)) (nB l (nT l (k + 1) + 1)) (hs ++ [(nV l (k + 1), nV l (nT l (k + 1) + 1))]) := by
 rw [loopR, if_pos ⟨rfl, hk⟩, if_neg h]

theorem refParse_new (s : ByteArray) (w : World) (hs : s.size <= 140737488355328) :
  Calls Tryz.prog 76 #[.string s] w fun e w' =>
   ((∃ r n L ad2 cap2, refP s.data.toList = some (r, n, L) /\ e = .returned (.tuple #[.agg #[.int .i64 r, .int .i64 n, .slice ad2 L.length cap2], .int .i64 0]) /\ HopsAt w' ad2 L /\ ∀ a, ad2 = some a -> w.heap.size <= a.block) ∨
   (refP s.data.toList = none /\ e = .returned (.tuple #[.agg #[.int .i64 0, .int .i64 0, .slice none 0 0], .int .i64 30]))) /\ Gr w w' := by
 obtain ⟨i0, hi, hz0, hz1, hz2⟩ := info_parts infoHop
 have hl : s.data.toList.length = s.size := by simp
 have HN0 : Hid (∀ (w' : World), Calls Tryz.prog 98 #[.string s, .int .i64 0] w' fun e w2 => e = .returned (.tuple #[.int .i64 (nV s.data.toList 0), .int .i64 (nT s.data.toList 0 : Nat), .bool (nB s.data.toList 0)]) /\ w2 = w') := fun w' => number_read s 0 w' hs (by omega)
 have HN : Hid (∀ (k : Nat) (w' : World), k < s.size -> Calls Tryz.prog 98 #[.string s, .int .i64 ((k : Int) + 1)] w' fun e w2 => e = .returned (.tuple #[.int .i64 (nV s.data.toList (k + 1)), .int .i64 (nT s.data.toList (k + 1) : Nat), .bool (nB s.data.toList (k + 1))]) /\ w2 = w') := by
  intro k w' h
  have := number_read s (k + 1) w' hs (by omega)
  rw [Int.natCast_add] at this
  exact this
 have HT : Hid (∀ k, k <= s.size -> nT s.data.toList k <= s.size) := by
  intro k h
  have := nT_le s.data.toList k (by omega)
  omega
 have HSH : Hid (∀ (r n : Int) (L : List (Int × Int)) (ad : Option Addr) (cap : Nat) (w' : World), L.length <= 5 -> HopsAt w' ad L -> Calls Tryz.prog 24 #[.agg #[.int .i64 r, .int .i64 n, .slice ad L.length cap]] w' fun e w2 =>
   ((Idn.mayB r n L = true /\ e = .returned (.tuple #[.string ⟨(Idn.showT r n L).toArray⟩, .int .i64 0])) ∨ (Idn.mayB r n L = false /\ e = .returned (.tuple #[.string ⟨#[]⟩, .int .i64 30]))) /\ Gr w' w2) := fun r n L ad cap w' h5 h => refShow_any r n L ad cap w' h (by omega)
 have HZ : Hid ((nB s.data.toList 0 = false ∨ nT s.data.toList 0 = s.size) -> refP s.data.toList = none) := fun h => refI_none _ (by rw [hl]; exact h)
 have HS : Hid (¬ (nB s.data.toList 0 = false ∨ nT s.data.toList 0 = s.size) -> refP s.data.toList = ansR s.data.toList (nV s.data.toList 0) (nV s.data.toList (nT s.data.toList 0 + 1)) (loopR s.data.toList 5 (nT s.data.toList (nT s.data.toList 0 + 1)) (nB s.data.toList (nT s.data.toList 0 + 1)) [])) := fun h => refI_some _ (by rw [hl]; exact h)
 have ht0 := HT.out 0 (by omega)
 by_cases hbad : nB s.data.toList 0 = false ∨ nT s.data.toList 0 = s.size
 ·have HR : Hid (refP s.data.toList = none) := HZ.out hbad
  have hcase : nB s.data.toList 0 = false ∨ (nB s.data.toList 0 = true /\ ((nT s.data.toList 0 : Nat) : Int) = (s.size : Int)) := by
   cases h : nB s.data.toList 0 with
   | false => left; rfl
   | true => right; rw [h] at hbad; simp at hbad; exact ⟨rfl, by omega⟩
  generalize nB s.data.toList 0 = b0 at *
  generalize nT s.data.toList 0 = t0 at *
  generalize nV s.data.toList 0 = v0 at *
  clear hbad HZ HS HT HSH HN hi hz0 hz1 hz2
  rcases hcase with rfl | ⟨rfl, he⟩
  ·go_enter Tryz.func76, Tryz.ntmps76
   go_wp2_with fail
   refine (HN0.out _).mono ?_
   rintro e1 w1 ⟨rfl, hw1⟩; obtain rfl := hw1.symm
   go_wp2
   exact bodyPost_ret (v := .tuple #[.agg #[.int .i64 0, .int .i64 0, .slice none 0 0], .int .i64 30]) (by simp [results, Tryz.results76, go_sem]) rfl ⟨Or.inr ⟨HR.out, rfl⟩, (by (with_reducible repeat' (first | exact Gr.refl _ | refine Gr.set ?_ _ ?_ _ | refine Gr.alloc ?_ | refine Gr.drew ?_ | refine Gr.trans ?_ (by assumption))) <;> (first | (simp; done) | (simp; omega) | omega))⟩
  ·have he' : (((t0 : Nat) : Int) == (s.size : Int)) = true := by simpa using he
   clear he
   go_enter Tryz.func76, Tryz.ntmps76
   go_wp2_with fail
   refine (HN0.out _).mono ?_
   rintro e1 w1 ⟨rfl, hw1⟩; obtain rfl := hw1.symm
   go_wp2
   exact bodyPost_ret (v := .tuple #[.agg #[.int .i64 0, .int .i64 0, .slice none 0 0], .int .i64 30]) (by simp [results, Tryz.results76, go_sem]) rfl ⟨Or.inr ⟨HR.out, rfl⟩, (by (with_reducible repeat' (first | exact Gr.refl _ | refine Gr.set ?_ _ ?_ _ | refine Gr.alloc ?_ | refine Gr.drew ?_ | refine Gr.trans ?_ (by assumption))) <;> (first | (simp; done) | (simp; omega) | omega))⟩
 ·have hS := HS.out hbad
  have hb0 : nB s.data.toList 0 = true := by
   cases h : nB s.data.toList 0 with
   | false => exact absurd (Or.inl h) hbad
   | true => rfl
  have hne0 : nT s.data.toList 0 ≠ s.size := fun e => hbad (Or.inr e)
  have hlt0 : nT s.data.toList 0 < s.size := by omega
  have hne0' : (((nT s.data.toList 0 : Nat) : Int) == (s.size : Int)) = false := by rw [beq_eq_false_iff_ne]; omega
  have HS1 : Hid (refP s.data.toList = ansR s.data.toList (nV s.data.toList 0) (nV s.data.toList (nT s.data.toList 0 + 1)) (loopR s.data.toList 5 (nT s.data.toList (nT s.data.toList 0 + 1)) (nB s.data.toList (nT s.data.toList 0 + 1)) [])) := hS
  have HN1 : Hid (∀ w', Calls Tryz.prog 98 #[.string s, .int .i64 (((nT s.data.toList 0 : Nat) : Int) + 1)] w' fun e w2 => e = .returned (.tuple #[.int .i64 (nV s.data.toList (nT s.data.toList 0 + 1)), .int .i64 (nT s.data.toList (nT s.data.toList 0 + 1) : Nat), .bool (nB s.data.toList (nT s.data.toList 0 + 1))]) /\ w2 = w') := fun w' => HN.out _ w' hlt0
  have ht1 := HT.out (nT s.data.toList 0 + 1) (by omega)
  rw [hb0] at HN0
  clear hS hbad HZ HS hb0 hne0
  generalize nT s.data.toList (nT s.data.toList 0 + 1) = t1 at *
  generalize nB s.data.toList (nT s.data.toList 0 + 1) = b1 at *
  generalize nV s.data.toList (nT s.data.toList 0 + 1) = n at *
  generalize nV s.data.toList 0 = r at *
  generalize nT s.data.toList 0 = t0 at *
  go_enter Tryz.func76, Tryz.ntmps76
  go_wp2_with fail
  refine (HN0.out _).mono ?_
  rintro e1 w1 ⟨rfl, hw1⟩; obtain rfl := hw1.symm
  go_wp2_with fail
  refine (HN1.out _).mono ?_
  rintro e2 w2 ⟨rfl, hw2⟩; obtain rfl := hw2.symm
  clear HN0 HN1
  go_wp2
  go_loopw [6, 7] (fun q f wr => ∃ (L : List (Int × Int)) (k : Nat) (ok : Bool) (ad : Option Addr) (cap : Nat), L.length <= 5 /\ q = .int .i64 k /\ f = .bool ok /\ k <= s.size /\ BoxAt wr w.heap.size (.int .i64 0) (.int .i64 0) (.slice none 0 0) /\ BoxAt wr (w.heap.size + 1) (.int .i64 r) (.int .i64 n) (.slice ad L.length cap) /\ wr.ownsRow (w.heap.size + 1 + 1) 85 2 (.slice ad L.length cap) L.length (hopV L) /\ loopR s.data.toList 5 t1 b1 [] = loopR s.data.toList (5 - L.length) k ok L /\ Gr w wr)
   (fun _ _ wr => 5 - lenCell (wr.cell? ⟨w.heap.size + 1, 2, none⟩))
  case atStart => exact ⟨[], t1, b1, none, 0, by simp, rfl, rfl, ht1, (BoxAt.new w _ _ _ _ _ rfl).gr (Gr.refl _).alloc, BoxAt.new _ _ _ _ _ _ (by simp), World.ownsRow_nil _ _ _ _, rfl, (by repeat(first|exact Gr.r _|refine Gr.a ?_|refine Gr.d ?_|refine Gr.t ?_ (by assumption)))⟩
  case round =>
   obtain ⟨L, k, ok, ad, cap, hl5, rfl, rfl, hks, hbx, hby, hown, hrd, hg⟩ := hrel
   have HRD : Hid (loopR s.data.toList 5 t1 b1 [] = loopR s.data.toList (5 - L.length) k ok L) := hrd
   have HBX : Hid (BoxAt wr w.heap.size (.int .i64 0) (.int .i64 0) (.slice none 0 0)) := hbx
   have HBY : Hid (BoxAt wr (w.heap.size + 1) (.int .i64 r) (.int .i64 n) (.slice ad L.length cap)) := hby
   obtain ⟨y0, y1, y2, g0, g1, g2, ylt⟩ := hby
   have hlc : lenCell (wr.cell? ⟨w.heap.size + 1, 2, none⟩) = L.length := by rw [y2]; rfl
   have HG : Hid (Gr w wr) := hg
   clear hrd hbx hg
   by_cases hgo : ok = true /\ k < s.size /\ L.length < 5
   ·obtain ⟨rfl, hklt, h5⟩ := hgo
    have h5i : (L.length : Int) < 5 := by omega
    have hki : (k : Int) < (s.size : Int) := by omega
    have HNk : Hid (∀ w', Calls Tryz.prog 98 #[.string s, .int .i64 ((k : Int) + 1)] w' fun e w2 => e = .returned (.tuple #[.int .i64 (nV s.data.toList (k + 1)), .int .i64 (nT s.data.toList (k + 1) : Nat), .bool (nB s.data.toList (k + 1))]) /\ w2 = w') := fun w' => HN.out k w' hklt
    have ht2 := HT.out (k + 1) (by omega)
    obtain ⟨xx0, xx1, xx2, f0, f1, f2, xlt⟩ := HBX.out
    by_cases hbad : nB s.data.toList (k + 1) = false ∨ nT s.data.toList (k + 1) = s.size
    ·have HR : Hid (refP s.data.toList = none) := by
      show _ = _
      rw [HS1.out, HRD.out, show 5 - L.length = (5 - (L.length + 1)) + 1 by omega, loop_none _ _ _ _ (by omega) (by rw [hl]; exact hbad)]; rfl
     have hcase : nB s.data.toList (k + 1) = false ∨ (nB s.data.toList (k + 1) = true /\ (((nT s.data.toList (k + 1) : Nat) : Int) == (s.size : Int)) = true) := by
      cases h : nB s.data.toList (k + 1) with
      | false => left; rfl
      | true => right; rw [h] at hbad; simp at hbad; exact ⟨rfl, by rw [hbad]; simp⟩
     generalize nB s.data.toList (k + 1) = b2 at *
     generalize nT s.data.toList (k + 1) = t2 at *
     generalize nV s.data.toList (k + 1) = v2 at *
     clear hown hbad
     rcases hcase with rfl | ⟨rfl, he'⟩
     all_goals
      go_wp2_with fail
      refine (HNk.out _).mono ?_
      rintro e3 w3 ⟨rfl, hw3⟩; obtain rfl := hw3.symm
      go_wp2
      have hg := HG.out
      exact bodyPost_ret (v := .tuple #[.agg #[.int .i64 0, .int .i64 0, .slice none 0 0], .int .i64 30]) (by simp [results, Tryz.results76, go_sem, xx0, xx1, xx2]) rfl ⟨Or.inr ⟨HR.out, rfl⟩, (by (with_reducible repeat' (first | exact Gr.refl _ | refine Gr.set ?_ _ ?_ _ | refine Gr.alloc ?_ | refine Gr.drew ?_ | refine Gr.trans ?_ (by assumption))) <;> (first | (simp; done) | (simp; omega) | omega))⟩
    ·have HRD2 : Hid (loopR s.data.toList 5 t1 b1 [] = loopR s.data.toList (5 - (L.length + 1)) (nT s.data.toList (nT s.data.toList (k + 1) + 1)) (nB s.data.toList (nT s.data.toList (k + 1) + 1)) (L ++ [(nV s.data.toList (k + 1), nV s.data.toList (nT s.data.toList (k + 1) + 1))])) := by
      show _ = _
      rw [HRD.out, show 5 - L.length = (5 - (L.length + 1)) + 1 by omega, loop_next _ _ _ _ (by omega) (by rw [hl]; exact hbad)]
     have hb2 : nB s.data.toList (k + 1) = true := by
      cases h : nB s.data.toList (k + 1) with
      | false => exact absurd (Or.inl h) hbad
      | true => rfl
     have hne2 : nT s.data.toList (k + 1) ≠ s.size := fun e => hbad (Or.inr e)
     have hlt2 : nT s.data.toList (k + 1) < s.size := by omega
     have hne2' : (((nT s.data.toList (k + 1) : Nat) : Int) == (s.size : Int)) = false := by rw [beq_eq_false_iff_ne]; omega
     have HN2 : Hid (∀ w', Calls Tryz.prog 98 #[.string s, .int .i64 (((nT s.data.toList (k + 1) : Nat) : Int) + 1)] w' fun e w2 => e = .returned (.tuple #[.int .i64 (nV s.data.toList (nT s.data.toList (k + 1) + 1)), .int .i64 (nT s.data.toList (nT s.data.toList (k + 1) + 1) : Nat), .bool (nB s.data.toList (nT s.data.toList (k + 1) + 1))]) /\ w2 = w') := fun w' => HN.out _ w' hlt2
     have ht3 := HT.out (nT s.data.toList (k + 1) + 1) (by omega)
     rw [hb2] at HNk
     clear hb2 hne2 hbad HRD
     generalize nT s.data.toList (nT s.data.toList (k + 1) + 1) = t3 at *
     generalize nB s.data.toList (nT s.data.toList (k + 1) + 1) = b3 at *
     generalize nV s.data.toList (nT s.data.toList (k + 1) + 1) = x2 at *
     generalize nV s.data.toList (k + 1) = x1 at *
     generalize nT s.data.toList (k + 1) = t2 at *
     go_wp2_with fail
     refine (HNk.out _).mono ?_
     rintro e3 w3 ⟨rfl, hw3⟩; obtain rfl := hw3.symm
     go_wp2_with fail
     refine (HN2.out _).mono ?_
     rintro e4 w4 ⟨rfl, hw4⟩; obtain rfl := hw4.symm
     have hm1 : L.length + 1 <= maxLen := by unfold maxLen; omega
     have hw5 : w.heap.size + 1 + 1 <= wr.heap.size := by omega
     have hnews : ∀ j u, (hopV [(x1, x2)])[j]? = some u -> (wr.alloc (.cells #[.int .i64 x1, .int .i64 x2] 85)).cell? ((⟨wr.heap.size, 0, none⟩ : Addr).add j) = some u := (hops_lit1' wr x1 x2 85).news
     have HNW : Hid (∀ j u, (hopV [(x1, x2)])[j]? = some u -> (wr.alloc (.cells #[.int .i64 x1, .int .i64 x2] 85)).cell? ((⟨wr.heap.size, 0, none⟩ : Addr).add j) = some u) := hnews
     clear hnews HNk HN2
     go_wp2_with (first
      | (at_builtin; refine wpList_append_own _ rfl _ _ 22 rfl (w.heap.size + 1 + 1) 85 i0 (.agg #[.int .i64 0, .int .i64 0]) 2 16 Tryz.underlying22 hi hz0 hz1 hz2 rfl (by decide) _ _ _ rfl (hown.alloc _) ⟨wr.heap.size, 0, none⟩ 1 1 (hopV [(x1, x2)]) rfl rfl HNW.out (hopV_one _) hm1 (by omega) (by simp; omega) ?_)
      | fail)
     intro v' w5 hown5 hgrow _
     have hb5 : Below (w.heap.size + 1 + 1) (wr.alloc (.cells #[.int .i64 x1, .int .i64 x2] 85)) w5 := (Below.refl _ _).grown hgrow (by simp; omega) (fun k hk => (hown.lt k hk).1)
     have key : ∀ {u : Value}, w5.ownsRow (w.heap.size + 1 + 1) 85 2 u (L.length + 1) (hopV L ++ hopV [(x1, x2)]) -> ∃ ad2 cap2, u = .slice ad2 (L.length + 1) cap2 := by
      intro u hu
      rw [<- hopV_app] at hu
      obtain ⟨ad2, cap2, h, _⟩ := own_hops (L := L ++ [(x1, x2)]) (by rw [List.length_append]; exact hu)
      rw [List.length_append] at h
      exact ⟨ad2, cap2, h⟩
     obtain ⟨ad5, cap5, rfl⟩ := key hown5
     have HBX5 : Hid (BoxAt w5 w.heap.size (.int .i64 0) (.int .i64 0) (.slice none 0 0)) := (HBX.out.gr (Gr.refl _).alloc).below hb5 (by omega)
     have HBY5 : Hid (BoxAt w5 (w.heap.size + 1) (.int .i64 r) (.int .i64 n) (.slice ad L.length cap)) := (HBY.out.gr (Gr.refl _).alloc).below hb5 (by omega)
     have HG5 : Hid (Gr w w5) := ⟨(HG.out.alloc).below.trans (hb5.mono (by omega))⟩
     have HO5 : Hid (w5.ownsRow (w.heap.size + 1 + 1) 85 2 (.slice ad5 (L.length + 1) cap5) (L.length + 1) (hopV L ++ hopV [(x1, x2)])) := hown5
     clear hown5 hown y0 y1 y2 g0 g1 g2 xx0 xx1 xx2 f0 f1 f2 hgrow key
     obtain ⟨v0, v1, v2, j0, j1, j2, vlt⟩ := HBY5.out
     go_wp2
     go_roundw
     case rel =>
      refine ⟨L ++ [(x1, x2)], t3, b3, ad5, cap5, by simp; omega, rfl, rfl, ht3, HBX5.out.setFar _ _ (by simp), ?_, ?_, ?_, ?_⟩
      ·rw [List.length_append]; exact HBY5.out.set2 _
      ·rw [List.length_append, hopV_app]
       exact HO5.out.kept (grownBy_set _ _ _) (Or.inr (fun e => by have := HO5.out.lt _ e; simp at this; omega))
      ·rw [List.length_append]; exact HRD2.out
      ·exact HG5.out.set _ (by simp) _
     case measure =>
      rw [hlc]
      have : lenCell ((w5.setCell ⟨w.heap.size + 1, 2, none⟩ (.slice ad5 (L.length + 1) cap5)).cell? ⟨w.heap.size + 1, 2, none⟩) = L.length + 1 := by rw [(HBY5.out.set2 _).c2]; rfl
      rw [this]; omega
   ·have HR : Hid (refP s.data.toList = if goodB s.data.toList (r, n, L, ok) = true then some (r, n, L) else none) := by
     show _ = _
     rw [HS1.out, HRD.out, loop_stop _ _ _ _ _ (by
      by_cases h5 : L.length < 5
      ·right
       rintro ⟨e, h⟩
       exact hgo ⟨e, by omega, h5⟩
      ·left; omega)]
     rfl
    have HH : Hid (HopsAt wr ad L /\ ∀ a, ad = some a -> w.heap.size + 1 + 1 <= a.block) := by
     obtain ⟨ad', cap', h, _, h2, h3⟩ := own_hops hown
     simp at h
     obtain ⟨rfl, rfl⟩ := h
     exact ⟨h2, h3⟩
    have HGB : Hid (goodB s.data.toList (r, n, L, ok) = (ok && Idn.mayB r n L && decide (Idn.showT r n L = s.data.toList))) := rfl
    clear hown HRD HS1 HN HT
    cases ok with
    | false =>
     have HRN : Hid (refP s.data.toList = none) := by show _ = _; rw [HR.out, HGB.out]; simp
     clear hgo
     go_wp2_with fail
     refine (HSH.out r n L ad cap _ hl5 HH.out.1).mono ?_
     rintro e5 w6 ⟨hcase, hg6⟩
     have HG6 : Hid (Gr w w6) := HG.out.trans hg6
     have HH6 : Hid (HopsAt w6 ad L) := HH.out.1.gr hg6
     obtain ⟨xx0, xx1, xx2, f0, f1, f2, xlt⟩ := HBX.out.gr hg6
     obtain ⟨z0, z1, z2, k0, k1, k2, zlt⟩ := HBY.out.gr hg6
     clear hg6 y0 y1 y2 g0 g1 g2 ylt
     rcases hcase with ⟨_, rfl⟩ | ⟨_, rfl⟩
     all_goals
      go_wp2
      have hg := HG6.out
      exact bodyPost_ret (v := .tuple #[.agg #[.int .i64 0, .int .i64 0, .slice none 0 0], .int .i64 30]) (by simp [results, Tryz.results76, go_sem, xx0, xx1, xx2]) rfl ⟨Or.inr ⟨HRN.out, rfl⟩, (by (with_reducible repeat' (first | exact Gr.refl _ | refine Gr.set ?_ _ ?_ _ | refine Gr.alloc ?_ | refine Gr.drew ?_ | refine Gr.trans ?_ (by assumption))) <;> (first | (simp; done) | (simp; omega) | omega))⟩
    | true =>
     have hcond : ¬ ((k : Int) < (s.size : Int)) ∨ ((k : Int) < (s.size : Int) /\ ¬ ((L.length : Int) < 5)) := by
      by_cases h : k < s.size
      ·right; exact ⟨by omega, fun h5 => hgo ⟨rfl, h, by omega⟩⟩
      ·left; omega
     clear hgo
     rcases hcond with hc1 | ⟨hc1, hc2⟩
     all_goals
      go_wp2_with fail
      refine (HSH.out r n L ad cap _ hl5 HH.out.1).mono ?_
      rintro e5 w6 ⟨hcase, hg6⟩
      have HG6 : Hid (Gr w w6) := HG.out.trans hg6
      have HH6 : Hid (HopsAt w6 ad L) := HH.out.1.gr hg6
      obtain ⟨xx0, xx1, xx2, f0, f1, f2, xlt⟩ := HBX.out.gr hg6
      obtain ⟨z0, z1, z2, k0, k1, k2, zlt⟩ := HBY.out.gr hg6
      clear hg6 y0 y1 y2 g0 g1 g2 ylt
      rcases hcase with ⟨hmay, rfl⟩ | ⟨hmay, rfl⟩
      ·have heq : (Idn.showT r n L == s.toList) = decide (Idn.showT r n L = s.data.toList) := by
        rw [toList_dat3]
        by_cases h : Idn.showT r n L = s.data.toList
        ·rw [decide_eq_true h]; exact beq_iff_eq.2 h
        ·rw [decide_eq_false h]; exact beq_eq_false_iff_ne.2 h
       by_cases hq : Idn.showT r n L = s.data.toList
       ·rw [decide_eq_true hq] at heq
        have HRS : Hid (refP s.data.toList = some (r, n, L)) := by show _ = _; rw [HR.out, HGB.out, hmay, decide_eq_true hq]; rfl
        generalize Idn.showT r n L = st at *
        clear hq hmay
        go_wp2
        have hg := HG6.out
        have hia := HH6.out
        have hfr := HH.out.2
        exact bodyPost_ret (v := .tuple #[.agg #[.int .i64 r, .int .i64 n, .slice ad L.length cap], .int .i64 0]) (by simp [results, Tryz.results76, go_sem, xx0, xx1, xx2]) rfl ⟨Or.inl ⟨r, n, L, ad, cap, HRS.out, rfl, (by (repeat' (first | with_reducible exact hia | with_reducible refine HopsAt.set ?_ _ _ ?_ | with_reducible refine HopsAt.alloc ?_ | with_reducible refine HopsAt.drew ?_)) <;> (intro a e; have := hfr a e; simp at this ⊢; omega)), fun a e => by have := HH.out.2 a e; omega⟩, (by (with_reducible repeat' (first | exact Gr.refl _ | refine Gr.set ?_ _ ?_ _ | refine Gr.alloc ?_ | refine Gr.drew ?_ | refine Gr.trans ?_ (by assumption))) <;> (first | (simp; done) | (simp; omega) | omega))⟩
       ·rw [decide_eq_false hq] at heq
        have HRN : Hid (refP s.data.toList = none) := by show _ = _; rw [HR.out, HGB.out, decide_eq_false hq]; simp
        generalize Idn.showT r n L = st at *
        clear hq hmay
        go_wp2
        have hg := HG6.out
        exact bodyPost_ret (v := .tuple #[.agg #[.int .i64 0, .int .i64 0, .slice none 0 0], .int .i64 30]) (by simp [results, Tryz.results76, go_sem, xx0, xx1, xx2]) rfl ⟨Or.inr ⟨HRN.out, rfl⟩, (by (with_reducible repeat' (first | exact Gr.refl _ | refine Gr.set ?_ _ ?_ _ | refine Gr.alloc ?_ | refine Gr.drew ?_ | refine Gr.trans ?_ (by assumption))) <;> (first | (simp; done) | (simp; omega) | omega))⟩
      ·have HRN : Hid (refP s.data.toList = none) := by show _ = _; rw [HR.out, HGB.out, hmay]; simp
       clear hmay
       go_wp2
       have hg := HG6.out
       exact bodyPost_ret (v := .tuple #[.agg #[.int .i64 0, .int .i64 0, .slice none 0 0], .int .i64 30]) (by simp [results, Tryz.results76, go_sem, xx0, xx1, xx2]) rfl ⟨Or.inr ⟨HRN.out, rfl⟩, (by (with_reducible repeat' (first | exact Gr.refl _ | refine Gr.set ?_ _ ?_ _ | refine Gr.alloc ?_ | refine Gr.drew ?_ | refine Gr.trans ?_ (by assumption))) <;> (first | (simp; done) | (simp; omega) | omega))⟩
end Go.Proofs.YthaadiclopoamaaGreatDoor
