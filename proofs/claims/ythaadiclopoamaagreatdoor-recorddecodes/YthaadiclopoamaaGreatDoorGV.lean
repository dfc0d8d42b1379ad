/- Parts of these proofs, laid together. -/
import Derived.Test.YthaadiclopoamaaGreatDoorGU
import Derived.Test.YthaadiclopoamaaGreatDoorGO
import Derived.Test.YthaadiclopoamaaGreatDoorGJ
import Derived.Test.YthaadiclopoamaaGreatDoorGP
import Derived.Test.YthaadiclopoamaaGreatDoorGB
import Derived.Test.YthaadiclopoamaaGreatDoorGQ
import Derived.ChangeSame
import Derived.ChangeSlices
import Derived.Deep.Strs
/- record: Encode. -/
set_option maxRecDepth 100000
set_option maxHeartbeats 8000000
namespace Go.Proofs.YthaadiclopoamaaGreatDoor
open Go.RowKit
open Df (Stp)

theorem rnumber_any (z : Int) (w : World) (h0 : 0 <= z) (h1 : z <= 9223372036854775807) :
  Calls Tryz.prog 40 #[.int .i64 z] w fun e w' => e = .returned (.string ⟨(Rc.nm z).toArray⟩) /\ Gr w w' := by
 have HN : Hid (∀ w' : World, Calls Tryz.prog 64 #[.int .u64 z] w' fun e w2 => e = .returned (.string ⟨(Rc.nm z).toArray⟩) /\ Gr w' w2) := by
  intro w'
  have := number_any z.toNat w' (by omega)
  rw [show ((z.toNat : Nat) : Int) = z by omega] at this
  exact this
 have hwr : IntKind.u64.wrap z = z := w64 _ h0 (by omega)
 clear h0 h1
 go_enter Tryz.func40, Tryz.ntmps40
 go_wp2_with fail
 refine (HN.out _).mono ?_
 rintro e1 w1 ⟨rfl, hg1⟩
 go_wp2
 go_ret
 exact ⟨rfl, (by repeat(first|exact Gr.r _|refine Gr.a ?_|refine Gr.d ?_|refine Gr.t ?_ (by assumption)))⟩
theorem shE_dt (d : ByteArray) (S : List Stp) : shE d S = ⟨(Rc.dt d S).toArray⟩ := by
 unfold shE Rc.dt; split <;> rfl

theorem laidDef_any (d : ByteArray) (S : List Stp) (a2 : Option Addr) (e2 : Nat) (w : World) (hS : StpsAt w a2 S) (hs : d.size <= 9223372036854775807) (hn : S.length <= 9223372036854775807) (hz : ∀ s ∈ S, inS s) (he : Env w) :
  Calls Tryz.prog 44 #[.agg #[.string d, .slice a2 S.length e2]] w fun e w' => e = .returned (.string ⟨(Pk.text (Rc.dt d S)).toArray⟩) /\ Gr w w' := by
 have HS : Hid (∀ w', Gr w w' -> Calls Tryz.prog 65 #[.agg #[.string d, .slice a2 S.length e2]] w' fun e w2 => e = .returned (.tuple #[.string ⟨(Rc.dt d S).toArray⟩, .int .i64 (Df.chE d S)]) /\ Gr w' w2) := by
  intro w' g
  have := dShow_any d S a2 e2 w' (hS.gr g) hs hn hz (he.gr g)
  rw [shE_dt] at this
  exact this
 have hl := Rc.dt_le d S
 have HT : Hid (∀ w' : World, Calls Tryz.prog 42 #[.string ⟨(Rc.dt d S).toArray⟩] w' fun e w2 => e = .returned (.string ⟨(Pk.text (Rc.dt d S)).toArray⟩) /\ Gr w' w2) := fun w' => text_any ⟨(Rc.dt d S).toArray⟩ w' (by simp [ByteArray.size]; omega)
 generalize Pk.text (Rc.dt d S) = R at *
 generalize Rc.dt d S = tx at *
 generalize Df.chE d S = ce at *
 clear hS hs hn hz he hl
 go_enter Tryz.func44, Tryz.ntmps44
 go_wp2_with fail
 refine (HS.out _ ?_).mono ?_
 ·exact (by repeat(first|exact Gr.r _|refine Gr.a ?_|refine Gr.d ?_|refine Gr.t ?_ (by assumption)))
 rintro e4 w1 ⟨rfl, hg1⟩
 go_wp2_with fail
 refine (HT.out _).mono ?_
 rintro e5 w2 ⟨rfl, hg2⟩
 go_wp2
 go_ret
 exact ⟨rfl, (by repeat(first|exact Gr.r _|refine Gr.a ?_|refine Gr.d ?_|refine Gr.t ?_ (by assumption)))⟩

theorem laidMove_any (k r n : Int) (L : List (Int × Int)) (s y : Int) (d : ByteArray) (S : List Stp) (a1 : Option Addr) (e1 : Nat) (a2 : Option Addr) (e2 : Nat) (w : World) (h : MvIn w (⟨k, r, n, L, s, y, d, S⟩ : Mv) a1 e1 a2 e2) (he : Env w) (hm : Rc.mvB (⟨k, r, n, L, s, y, d, S⟩ : Mv) = true) :
  Calls Tryz.prog 41 #[.agg #[.int .i64 k, .int .i64 r, .int .i64 n, .slice a1 L.length e1, .int .i64 s, .int .i64 y, .string d, .slice a2 S.length e2]] w fun e w' => e = .returned (.string ⟨(Rc.bdM (⟨k, r, n, L, s, y, d, S⟩ : Mv)).toArray⟩) /\ Gr w w' := by
 obtain ⟨hk, hi, hdf, hy, hs⟩ := Rc.may_move hm
 simp only at hk hi hdf hy hs
 have hsl := Rc.id_len hi
 have h4 := (may_root hi).2.2.2.2.1
 have HS : Hid (∀ w', Gr w w' -> Calls Tryz.prog 22 #[.agg #[.int .i64 r, .int .i64 n, .slice a1 L.length e1]] w' fun e w2 => e = .returned (.tuple #[.string ⟨(Idn.showT r n L).toArray⟩, .int .i64 0]) /\ Gr w' w2) := by
  intro w' g
  refine (show_any r n L a1 e1 w' (h.hops.gr g) (by omega) (he.gr g)).mono ?_
  rintro e w2 ⟨⟨_, q⟩ | ⟨q, _⟩, hg⟩
  ·exact ⟨q, hg⟩
  ·rw [hi] at q; cases q
 have HK : Hid (∀ w' : World, Calls Tryz.prog 40 #[.int .i64 k] w' fun e w2 => e = .returned (.string ⟨(Rc.nm k).toArray⟩) /\ Gr w' w2) := fun w' => rnumber_any k w' (by omega) (by omega)
 have HP : Hid (∀ w' : World, Calls Tryz.prog 40 #[.int .i64 s] w' fun e w2 => e = .returned (.string ⟨(Rc.nm s).toArray⟩) /\ Gr w' w2) := fun w' => rnumber_any s w' (by omega) (by omega)
 have HY : Hid (∀ w' : World, Calls Tryz.prog 40 #[.int .i64 y] w' fun e w2 => e = .returned (.string ⟨(Rc.nm y).toArray⟩) /\ Gr w' w2) := fun w' => rnumber_any y w' (by omega) (by omega)
 have HT : Hid (∀ w' : World, Calls Tryz.prog 42 #[.string ⟨(Idn.showT r n L).toArray⟩] w' fun e w2 => e = .returned (.string ⟨(Pk.text (Idn.showT r n L)).toArray⟩) /\ Gr w' w2) := fun w' => text_any ⟨(Idn.showT r n L).toArray⟩ w' (by simp [ByteArray.size]; omega)
 have HD : Hid (∀ w', Gr w w' -> Calls Tryz.prog 44 #[.agg #[.string d, .slice a2 S.length e2]] w' fun e w2 => e = .returned (.string ⟨(Pk.text (Rc.dt d S)).toArray⟩) /\ Gr w' w2) := fun w' g => laidDef_any d S a2 e2 w' (h.stps.gr g) h.nd h.nS h.inS (he.gr g)
 have l1 := Rc.num_le k
 have l2 := Rc.text_le (Idn.showT r n L)
 have l3 := Rc.num_le s
 have l4 := Rc.num_le y
 have l5 := Rc.text_le (Rc.dt d S)
 have l6 := Rc.dt_le d S
 have HE : Hid (Rc.bdM (⟨k, r, n, L, s, y, d, S⟩ : Mv) = Rc.nm k ++ Pk.text (Idn.showT r n L) ++ Rc.nm s ++ Rc.nm y ++ Pk.text (Rc.dt d S)) := rfl
 generalize Rc.bdM (⟨k, r, n, L, s, y, d, S⟩ : Mv) = R at *
 generalize Rc.nm k = t1 at *
 generalize Pk.text (Idn.showT r n L) = t2 at *
 generalize Rc.nm s = t3 at *
 generalize Rc.nm y = t4 at *
 generalize Pk.text (Rc.dt d S) = t5 at *
 have s1 := add_lists t1 t2 (by omega)
 have s2 := add_lists (t1 ++ t2) t3 (by simp; omega)
 have s3 := add_lists (t1 ++ t2 ++ t3) t4 (by simp; omega)
 have s4 := add_lists (t1 ++ t2 ++ t3 ++ t4) t5 (by simp; omega)
 generalize t1 ++ t2 ++ t3 ++ t4 ++ t5 = u4 at *
 generalize t1 ++ t2 ++ t3 ++ t4 = u3 at *
 generalize t1 ++ t2 ++ t3 = u2 at *
 generalize t1 ++ t2 = u1 at *
 generalize Idn.showT r n L = st at *
 clear h he hm hk hi hdf hy hs hsl h4 l1 l2 l3 l4 l5 l6
 go_enter Tryz.func41, Tryz.ntmps41
 go_wp2_with fail
 refine (HS.out _ ?_).mono ?_
 ·exact (by repeat(first|exact Gr.r _|refine Gr.a ?_|refine Gr.d ?_|refine Gr.t ?_ (by assumption)))
 rintro e4 w1 ⟨rfl, hg1⟩
 have B1 := (Cs.new w [.int .i64 k, .int .i64 r, .int .i64 n, .slice a1 L.length e1, .int .i64 s, .int .i64 y, .string d, .slice a2 S.length e2] 29 _ rfl).gr hg1
 have G1 : Gr w w1 := (by repeat(first|exact Gr.r _|refine Gr.a ?_|refine Gr.d ?_|refine Gr.t ?_ (by assumption)))
 obtain ⟨c0, c1, c2, c3, c4, c5, c6, c7, clt⟩ := B1.c8
 clear hg1 B1
 go_wp2
 go_region_held3 (fun w' => Gr w1 w' /\ w'.cell? ⟨w.heap.size, 0, none⟩ = some (.int .i64 k) /\ w'.cell? ⟨w.heap.size, 1, none⟩ = some (.int .i64 r) /\ w'.cell? ⟨w.heap.size, 2, none⟩ = some (.int .i64 n) /\ w'.cell? ⟨w.heap.size, 3, none⟩ = some (.slice a1 L.length e1) /\ w'.cell? ⟨w.heap.size, 4, none⟩ = some (.int .i64 s) /\ w'.cell? ⟨w.heap.size, 5, none⟩ = some (.int .i64 y) /\ w'.cell? ⟨w.heap.size, 6, none⟩ = some (.string d) /\ w'.cell? ⟨w.heap.size, 7, none⟩ = some (.slice a2 S.length e2))
  ((go_split_ands; exact ⟨(by repeat(first|exact Gr.r _|refine Gr.a ?_|refine Gr.d ?_|refine Gr.t ?_ (by assumption))), Gr.keep (W := w1) (by repeat(first|exact Gr.r _|refine Gr.a ?_|refine Gr.d ?_|refine Gr.t ?_ (by assumption))) c0, Gr.keep (W := w1) (by repeat(first|exact Gr.r _|refine Gr.a ?_|refine Gr.d ?_|refine Gr.t ?_ (by assumption))) c1, Gr.keep (W := w1) (by repeat(first|exact Gr.r _|refine Gr.a ?_|refine Gr.d ?_|refine Gr.t ?_ (by assumption))) c2, Gr.keep (W := w1) (by repeat(first|exact Gr.r _|refine Gr.a ?_|refine Gr.d ?_|refine Gr.t ?_ (by assumption))) c3, Gr.keep (W := w1) (by repeat(first|exact Gr.r _|refine Gr.a ?_|refine Gr.d ?_|refine Gr.t ?_ (by assumption))) c4, Gr.keep (W := w1) (by repeat(first|exact Gr.r _|refine Gr.a ?_|refine Gr.d ?_|refine Gr.t ?_ (by assumption))) c5, Gr.keep (W := w1) (by repeat(first|exact Gr.r _|refine Gr.a ?_|refine Gr.d ?_|refine Gr.t ?_ (by assumption))) c6, Gr.keep (W := w1) (by repeat(first|exact Gr.r _|refine Gr.a ?_|refine Gr.d ?_|refine Gr.t ?_ (by assumption))) c7⟩))
  ((first
   | (go_at_call_of 40 (Value.int .i64 k); refine (HK.out _).mono ?_; rintro e w2 ⟨rfl, hg2⟩; go_split_ands)
   | (go_at_call_of 40 (Value.int .i64 s); refine (HP.out _).mono ?_; rintro e w3 ⟨rfl, hg3⟩; go_split_ands)
   | (go_at_call_of 40 (Value.int .i64 y); refine (HY.out _).mono ?_; rintro e w4 ⟨rfl, hg4⟩; go_split_ands)
   | (go_at_call 42; refine (HT.out _).mono ?_; rintro e w5 ⟨rfl, hg5⟩; go_split_ands)
   | (go_at_call 44; refine (HD.out _ ?_).mono ?_; (go_split_ands; exact G1.trans (by repeat(first|exact Gr.r _|refine Gr.a ?_|refine Gr.d ?_|refine Gr.t ?_ (by assumption)))); rintro e w6 ⟨rfl, hg6⟩; go_split_ands)))
 all_goals go_wp2
 all_goals go_ret
 all_goals exact ⟨by rw [HE.out]; rfl, G1.trans (by repeat(first|exact Gr.r _|refine Gr.a ?_|refine Gr.d ?_|refine Gr.t ?_ (by assumption)))⟩
end Go.Proofs.YthaadiclopoamaaGreatDoor
/- record: Show. -/
set_option maxRecDepth 100000
set_option maxHeartbeats 8000000
namespace Go.Proofs.YthaadiclopoamaaGreatDoor
open Go.RowKit
open Df (Stp)

theorem Rc.word_len (k : Int) : (Rc.wordL k).length <= 6 := by
 unfold Rc.wordL
 by_cases h : 1 <= k /\ k <= 16
 ·rcases (show k = 1 ∨ k = 2 ∨ k = 3 ∨ k = 4 ∨ k = 5 ∨ k = 6 ∨ k = 7 ∨ k = 8 ∨ k = 9 ∨ k = 10 ∨ k = 11 ∨ k = 12 ∨ k = 13 ∨ k = 14 ∨ k = 15 ∨ k = 16 by omega) with rfl | rfl | rfl | rfl | rfl | rfl | rfl | rfl | rfl | rfl | rfl | rfl | rfl | rfl | rfl | rfl <;> decide
 ·rw [if_neg (by omega), if_neg (by omega), if_neg (by omega), if_neg (by omega), if_neg (by omega), if_neg (by omega), if_neg (by omega), if_neg (by omega), if_neg (by omega), if_neg (by omega), if_neg (by omega), if_neg (by omega), if_neg (by omega), if_neg (by omega), if_neg (by omega), if_neg (by omega)]
  decide
theorem Rc.flags (k : Int) (h1 : 1 <= k) (h2 : k <= 16) : (0 < Rc.stK k /\ Rc.wyK k = false /\ ¬ k = 1) ∨ (Rc.stK k = 0 /\ Rc.wyK k = true /\ ¬ k = 1) ∨ (Rc.stK k = 0 /\ Rc.wyK k = false /\ k = 1) ∨ (Rc.stK k = 0 /\ Rc.wyK k = false /\ ¬ k = 1) := by
 rcases (show k = 1 ∨ k = 2 ∨ k = 3 ∨ k = 4 ∨ k = 5 ∨ k = 6 ∨ k = 7 ∨ k = 8 ∨ k = 9 ∨ k = 10 ∨ k = 11 ∨ k = 12 ∨ k = 13 ∨ k = 14 ∨ k = 15 ∨ k = 16 by omega) with rfl | rfl | rfl | rfl | rfl | rfl | rfl | rfl | rfl | rfl | rfl | rfl | rfl | rfl | rfl | rfl <;> decide

theorem showR_any (k r n : Int) (L : List (Int × Int)) (s y : Int) (d : ByteArray) (S : List Stp) (a1 : Option Addr) (e1 : Nat) (a2 : Option Addr) (e2 : Nat) (w : World) (h : MvIn w (⟨k, r, n, L, s, y, d, S⟩ : Mv) a1 e1 a2 e2) (hF : Forms w) (he : Env w) :
  Calls Tryz.prog 10 #[.agg #[.int .i64 k, .int .i64 r, .int .i64 n, .slice a1 L.length e1, .int .i64 s, .int .i64 y, .string d, .slice a2 S.length e2]] w fun e w' => e = .returned (.tuple #[.string ⟨(Rc.shL (⟨k, r, n, L, s, y, d, S⟩ : Mv)).toArray⟩, .int .i64 (Rc.mvE (⟨k, r, n, L, s, y, d, S⟩ : Mv))]) /\ Gr w w' := by
 have HC : Hid (∀ w', Gr w w' -> Calls Tryz.prog 12 #[.agg #[.int .i64 k, .int .i64 r, .int .i64 n, .slice a1 L.length e1, .int .i64 s, .int .i64 y, .string d, .slice a2 S.length e2]] w' fun e w2 => e = .returned (.int .i64 (if Rc.mvB (⟨k, r, n, L, s, y, d, S⟩ : Mv) = true then 0 else 140)) /\ Gr w' w2) := fun w' g => move_any k r n L s y d S a1 e1 a2 e2 w' (h.gr g) (hF.gr g)
 have HR : Hid (Rc.shL (⟨k, r, n, L, s, y, d, S⟩ : Mv) = if Rc.mvB (⟨k, r, n, L, s, y, d, S⟩ : Mv) = true then Rc.wordL k ++ [32] ++ Idn.showT r n L ++ (if 0 < Rc.stK k then [32] ++ Lib.decDigits s.toNat else []) ++ (if Rc.wyK k = true then [32] ++ Lib.decDigits y.toNat else []) ++ (if k = 1 then [32] ++ d.data.toList else []) else []) := rfl
 have HE : Hid (Rc.mvE (⟨k, r, n, L, s, y, d, S⟩ : Mv) = if Rc.mvB (⟨k, r, n, L, s, y, d, S⟩ : Mv) = true then 0 else 140) := rfl
 generalize Rc.shL (⟨k, r, n, L, s, y, d, S⟩ : Mv) = R at *
 generalize Rc.mvE (⟨k, r, n, L, s, y, d, S⟩ : Mv) = E at *
 by_cases hb : Rc.mvB (⟨k, r, n, L, s, y, d, S⟩ : Mv) = true
 ·rw [if_pos hb] at HC HR HE
  obtain ⟨hk, hi, hdf, hy, hs⟩ := Rc.may_move hb
  simp only at hk hi hdf hy hs
  have hsl := Rc.id_len hi
  have h4 := (may_root hi).2.2.2.2.1
  have hd16 : d.size <= 16 := by
   rcases Rc.df_or hdf with q | q
   ·exact name_le ((Df.def_iff _ _).1 q).1
   ·rw [(Rc.ba_iff.1 q).1]; decide
  have hdsz : d.data.toList.length = d.size := by simp
  have HS : Hid (∀ w', Gr w w' -> Calls Tryz.prog 22 #[.agg #[.int .i64 r, .int .i64 n, .slice a1 L.length e1]] w' fun e w2 => e = .returned (.tuple #[.string ⟨(Idn.showT r n L).toArray⟩, .int .i64 0]) /\ Gr w' w2) := by
   intro w' g
   refine (show_any r n L a1 e1 w' (h.hops.gr g) (by omega) (he.gr g)).mono ?_
   rintro e w2 ⟨⟨_, q⟩ | ⟨q, _⟩, hg⟩
   ·exact ⟨q, hg⟩
   ·rw [hi] at q; cases q
  have HO : Hid (∀ w', Gr w w' -> Calls Tryz.prog 21 #[.int .i64 k] w' fun e w2 => e = .returned (.agg #[.string ⟨(Rc.wordL k).toArray⟩, .bool (decide (k = 2)), .bool (decide (k = 1)), .bool (Rc.wyK k), .int .i64 (Rc.stK k)]) /\ Gr w' w2) := fun w' g => formOf_any k w' hk.1 hk.2 (hF.gr g)
  have HT : Hid (∀ w', Gr w w' -> Calls Tryz.prog 23 #[.int .i64 s] w' fun e w2 => e = .returned (.string ⟨(Lib.decDigits s.toNat).toArray⟩) /\ Gr w' w2) := by
   intro w' g
   have := itoa_any s.toNat w' (by omega) (he.gr g)
   rw [show ((s.toNat : Nat) : Int) = s by omega] at this
   exact this
  have HY : Hid (∀ w', Gr w w' -> Calls Tryz.prog 23 #[.int .i64 y] w' fun e w2 => e = .returned (.string ⟨(Lib.decDigits y.toNat).toArray⟩) /\ Gr w' w2) := by
   intro w' g
   have := itoa_any y.toNat w' (by omega) (he.gr g)
   rw [show ((y.toNat : Nat) : Int) = y by omega] at this
   exact this
  have l1 : (Lib.decDigits s.toNat).length <= 1 := digs_len s.toNat 0 (by omega)
  have l2 : (Lib.decDigits y.toNat).length <= 1 := digs_len y.toNat 0 (by omega)
  have l3 := Rc.word_len k
  have hfl := Rc.flags k hk.1 hk.2
  generalize Rc.wordL k = wd at *
  generalize Idn.showT r n L = st0 at *
  generalize Lib.decDigits s.toNat = ds at *
  generalize Lib.decDigits y.toNat = dy at *
  generalize Rc.wyK k = wb at *
  generalize Rc.stK k = st at *
  generalize hcb : decide (k = 2) = cb at *
  have q1 := add_lists wd [32] (by simp; omega)
  have q2 := add_lists (wd ++ [32]) st0 (by simp; omega)
  have q3 := add_lists [32] ds (by simp; omega)
  have q4 := add_lists (wd ++ [32] ++ st0) ([32] ++ ds) (by simp; omega)
  have q5 := add_lists [32] dy (by simp; omega)
  have q6 := add_lists (wd ++ [32] ++ st0) ([32] ++ dy) (by simp; omega)
  have q7 := add_lists [32] d.data.toList (by simp; omega)
  rw [mk_data] at q7
  have q8 := add_lists (wd ++ [32] ++ st0) ([32] ++ d.data.toList) (by simp; omega)
  generalize wd ++ [32] ++ st0 = u2 at *
  generalize wd ++ [32] = u1 at *
  clear h hF he hb hk hi hdf hy hs hsl h4 hd16 hdsz l1 l2 l3 hcb
  rcases hfl with ⟨hst, rfl, hn1⟩ | ⟨rfl, rfl, hn1⟩ | ⟨rfl, rfl, hn1⟩ | ⟨rfl, rfl, hn1⟩
  ·rw [if_pos hst, if_neg (by simp), if_neg hn1, List.append_nil, List.append_nil] at HR
   rw [decide_eq_false hn1] at HO
   generalize [32] ++ ds = td at *
   generalize u2 ++ td = uz at *
   clear q5 q6 q7 q8 hn1
   go_enter Tryz.func10, Tryz.ntmps10
   go_wp2_with fail
   refine (HC.out _ ?_).mono ?_
   ·exact (Gr.refl _).alloc
   rintro e4 w1 ⟨rfl, hg1⟩
   have G1 := (Gr.refl w).alloc.trans hg1
   have B1 := (Cs.new w _ _ _ rfl).gr hg1
   clear hg1
   obtain ⟨c0, c1, c2, c3, c4, c5, c6, c7, clt⟩ := B1.c8
   go_wp2_with fail
   refine (HO.out _ G1).mono ?_
   rintro e5 w2 ⟨rfl, hg2⟩
   have G2 : Gr w w2 := G1.trans hg2
   have B2 := B1.gr hg2
   clear hg2 B1 clt c0 c1 c2 c3 c4 c5 c6 c7
   obtain ⟨c0, c1, c2, c3, c4, c5, c6, c7, clt⟩ := B2.c8
   go_wp2_with fail
   refine (HS.out _ G2.alloc).mono ?_
   rintro e6 w3 ⟨rfl, hg3⟩
   have G3 : Gr w w3 := G2.alloc.trans hg3
   have B3 := B2.alloc.gr hg3
   have X3 := (Cs.new w2 _ _ _ rfl).gr hg3
   clear hg3 B2 clt c0 c1 c2 c3 c4 c5 c6 c7
   obtain ⟨c0, c1, c2, c3, c4, c5, c6, c7, clt⟩ := B3.c8
   obtain ⟨f0, f1, f2, f3, f4, flt⟩ := X3.c5
   go_wp2_with fail
   refine (HT.out _ G3).mono ?_
   rintro e7 w4 ⟨rfl, hg4⟩
   have G4 : Gr w w4 := G3.trans hg4
   have B4 := B3.gr hg4
   have X4 := X3.gr hg4
   clear hg4 B3 X3 clt flt c0 c1 c2 c3 c4 c5 c6 c7 f0 f1 f2 f3 f4
   obtain ⟨c0, c1, c2, c3, c4, c5, c6, c7, clt⟩ := B4.c8
   obtain ⟨f0, f1, f2, f3, f4, flt⟩ := X4.c5
   go_wp2
   go_ret2
   exact ⟨by rw [HR.out, HE.out]; rfl, G4⟩
  ·rw [if_neg (by simp), if_pos rfl, if_neg hn1, List.append_nil, List.append_nil] at HR
   rw [decide_eq_false hn1] at HO
   generalize [32] ++ dy = td at *
   generalize u2 ++ td = uz at *
   clear q3 q4 q7 q8 hn1
   go_enter Tryz.func10, Tryz.ntmps10
   go_wp2_with fail
   refine (HC.out _ ?_).mono ?_
   ·exact (Gr.refl _).alloc
   rintro e4 w1 ⟨rfl, hg1⟩
   have G1 := (Gr.refl w).alloc.trans hg1
   have B1 := (Cs.new w _ _ _ rfl).gr hg1
   clear hg1
   obtain ⟨c0, c1, c2, c3, c4, c5, c6, c7, clt⟩ := B1.c8
   go_wp2_with fail
   refine (HO.out _ G1).mono ?_
   rintro e5 w2 ⟨rfl, hg2⟩
   have G2 : Gr w w2 := G1.trans hg2
   have B2 := B1.gr hg2
   clear hg2 B1 clt c0 c1 c2 c3 c4 c5 c6 c7
   obtain ⟨c0, c1, c2, c3, c4, c5, c6, c7, clt⟩ := B2.c8
   go_wp2_with fail
   refine (HS.out _ G2.alloc).mono ?_
   rintro e6 w3 ⟨rfl, hg3⟩
   have G3 : Gr w w3 := G2.alloc.trans hg3
   have B3 := B2.alloc.gr hg3
   have X3 := (Cs.new w2 _ _ _ rfl).gr hg3
   clear hg3 B2 clt c0 c1 c2 c3 c4 c5 c6 c7
   obtain ⟨c0, c1, c2, c3, c4, c5, c6, c7, clt⟩ := B3.c8
   obtain ⟨f0, f1, f2, f3, f4, flt⟩ := X3.c5
   go_wp2_with fail
   refine (HY.out _ G3).mono ?_
   rintro e7 w4 ⟨rfl, hg4⟩
   have G4 : Gr w w4 := G3.trans hg4
   have B4 := B3.gr hg4
   have X4 := X3.gr hg4
   clear hg4 B3 X3 clt flt c0 c1 c2 c3 c4 c5 c6 c7 f0 f1 f2 f3 f4
   obtain ⟨c0, c1, c2, c3, c4, c5, c6, c7, clt⟩ := B4.c8
   obtain ⟨f0, f1, f2, f3, f4, flt⟩ := X4.c5
   go_wp2
   go_ret2
   exact ⟨by rw [HR.out, HE.out]; rfl, G4⟩
  ·subst hn1
   rw [if_neg (by simp), if_neg (by simp), if_pos rfl, List.append_nil, List.append_nil] at HR
   rw [decide_eq_true rfl] at HO
   generalize [32] ++ d.data.toList = td at *
   generalize u2 ++ td = uz at *
   clear q3 q4 q5 q6
   go_enter Tryz.func10, Tryz.ntmps10
   go_wp2_with fail
   refine (HC.out _ ?_).mono ?_
   ·exact (Gr.refl _).alloc
   rintro e4 w1 ⟨rfl, hg1⟩
   have G1 := (Gr.refl w).alloc.trans hg1
   have B1 := (Cs.new w _ _ _ rfl).gr hg1
   clear hg1
   obtain ⟨c0, c1, c2, c3, c4, c5, c6, c7, clt⟩ := B1.c8
   go_wp2_with fail
   refine (HO.out _ G1).mono ?_
   rintro e5 w2 ⟨rfl, hg2⟩
   have G2 : Gr w w2 := G1.trans hg2
   have B2 := B1.gr hg2
   clear hg2 B1 clt c0 c1 c2 c3 c4 c5 c6 c7
   obtain ⟨c0, c1, c2, c3, c4, c5, c6, c7, clt⟩ := B2.c8
   go_wp2_with fail
   refine (HS.out _ G2.alloc).mono ?_
   rintro e6 w3 ⟨rfl, hg3⟩
   have G3 : Gr w w3 := G2.alloc.trans hg3
   have B3 := B2.alloc.gr hg3
   have X3 := (Cs.new w2 _ _ _ rfl).gr hg3
   clear hg3 B2 clt c0 c1 c2 c3 c4 c5 c6 c7
   obtain ⟨c0, c1, c2, c3, c4, c5, c6, c7, clt⟩ := B3.c8
   obtain ⟨f0, f1, f2, f3, f4, flt⟩ := X3.c5
   go_wp2
   go_ret2
   exact ⟨by rw [HR.out, HE.out]; rfl, G3⟩
  ·rw [if_neg (by simp), if_neg (by simp), if_neg hn1, List.append_nil, List.append_nil, List.append_nil] at HR
   rw [decide_eq_false hn1] at HO
   clear q3 q4 q5 q6 q7 q8 hn1
   go_enter Tryz.func10, Tryz.ntmps10
   go_wp2_with fail
   refine (HC.out _ ?_).mono ?_
   ·exact (Gr.refl _).alloc
   rintro e4 w1 ⟨rfl, hg1⟩
   have G1 := (Gr.refl w).alloc.trans hg1
   have B1 := (Cs.new w _ _ _ rfl).gr hg1
   clear hg1
   obtain ⟨c0, c1, c2, c3, c4, c5, c6, c7, clt⟩ := B1.c8
   go_wp2_with fail
   refine (HO.out _ G1).mono ?_
   rintro e5 w2 ⟨rfl, hg2⟩
   have G2 : Gr w w2 := G1.trans hg2
   have B2 := B1.gr hg2
   clear hg2 B1 clt c0 c1 c2 c3 c4 c5 c6 c7
   obtain ⟨c0, c1, c2, c3, c4, c5, c6, c7, clt⟩ := B2.c8
   go_wp2_with fail
   refine (HS.out _ G2.alloc).mono ?_
   rintro e6 w3 ⟨rfl, hg3⟩
   have G3 : Gr w w3 := G2.alloc.trans hg3
   have B3 := B2.alloc.gr hg3
   have X3 := (Cs.new w2 _ _ _ rfl).gr hg3
   clear hg3 B2 clt c0 c1 c2 c3 c4 c5 c6 c7
   obtain ⟨c0, c1, c2, c3, c4, c5, c6, c7, clt⟩ := B3.c8
   obtain ⟨f0, f1, f2, f3, f4, flt⟩ := X3.c5
   go_wp2
   go_ret2
   exact ⟨by rw [HR.out, HE.out]; rfl, G3⟩
 ·rw [if_neg hb] at HC HR HE
  clear h hF he hb
  go_enter Tryz.func10, Tryz.ntmps10
  go_wp2_with fail
  refine (HC.out _ ?_).mono ?_
  ·exact (by repeat(first|exact Gr.r _|refine Gr.a ?_|refine Gr.d ?_|refine Gr.t ?_ (by assumption)))
  rintro e4 w1 ⟨rfl, hg1⟩
  go_wp2
  go_ret2
  exact ⟨by rw [HR.out, HE.out]; rfl, (by repeat(first|exact Gr.r _|refine Gr.a ?_|refine Gr.d ?_|refine Gr.t ?_ (by assumption)))⟩
end Go.Proofs.YthaadiclopoamaaGreatDoor
/- A record that came in, opened. -/
set_option maxRecDepth 100000
set_option maxHeartbeats 8000000
namespace Go.Proofs.YthaadiclopoamaaGreatDoor
open Go.ChangeShapes Go.WideShapes Go.ChangeAt Go.RowKit
open Df (Stp)

theorem rng_int {n : Int} (h : (Lit.int .i64 n).wf = true) : inI n := by
 simp only [Lit.wf, Bool.and_eq_true, decide_eq_true_eq] at h
 exact h
theorem row_of {α : Type} {f : α -> List Value} {c : Nat} (hc : ∀ x, (f x).length = c) (h0 : 0 < c) {w : World} {b off : Nat} {L : List α}
  (each : ∀ q (h : q < L.length) r u, (f L[q])[r]? = some u -> w.cell? ⟨b, off + (q * c + r), none⟩ = some u) : RowAt f w (some ⟨b, off, none⟩) L := by
 intro j u hu
 have hj : j < (L.flatMap f).length := by
  rcases Nat.lt_or_ge j (L.flatMap f).length with h | h
  ·exact h
  ·rw [List.getElem?_eq_none h] at hu; cases hu
 rw [flat_len hc] at hj
 have hr : j % c < c := Nat.mod_lt _ h0
 have hq : j / c < L.length := Nat.div_lt_of_lt_mul (by rw [Nat.mul_comm]; exact hj)
 have e : j = j / c * c + j % c := by rw [Nat.mul_comm]; exact (Nat.div_add_mod j c).symm
 rw [e, flat_get hc L (j / c) hq (j % c) hr] at hu
 have h := each (j / c) hq (j % c) u hu
 rw [<- e] at h
 exact ⟨b, off, rfl, World.block_lt_of_cell? w _ h, h⟩

theorem open_rows {α : Type} [Inhabited α] {f : α -> List Value} {c : Nat} (hc : ∀ x, (f x).length = c) (h0 : 0 < c) {In : α -> Prop} {t e : TypeId} (ht : Tryz.prog.underlying t = some (.slice e)) (ce : Tryz.prog.cellsOf e = c)
  {H : Type} {enc : TypeId × Value -> H} {W : World} {base : Nat} {sp : Nat -> Bool} {held : Bool} {fuel : Nat} {a0 : Option Addr} {len0 cap0 : Nat} {x : DataW H × List MemPlace}
  (elem : ∀ (n : Nat) (cs : List Value) (y : DataW H × List MemPlace), cs.length = c -> DataW.trod enc Tryz.prog W base sp held n e cs = some y -> ∃ z : α, cs = f z /\ In z)
  (hf : DataW.trod enc Tryz.prog W base sp held fuel t [.slice a0 len0 cap0] = some x) :
  ∃ L : List α, len0 = L.length /\ RowAt f W a0 L /\ L.length <= 9223372036854775807 /\ (∀ y ∈ L, In y) /\ len0 <= cap0 := by
 rcases Deep.open_slice ht hf with ⟨hcs, _⟩ | ⟨a, len, cap, m, n, D, Pl, hcs, _, hl, hm, hmm, _, hx⟩
 ·simp at hcs
  obtain ⟨rfl, rfl, rfl⟩ := hcs
  exact ⟨[], rfl, RowAt.nil, by simp, by simp, Nat.le_refl _⟩
 ·simp at hcs
  obtain ⟨rfl, rfl, rfl⟩ := hcs
  have hlm : len0 <= m := by rw [hmm]; split <;> omega
  have each : ∀ i, i < len0 -> ∃ z : α, (∀ r u, (f z)[r]? = some u -> W.cell? (a.add (i * c + r)) = some u) /\ In z := by
   intro i hi
   obtain ⟨cs, h1, h2⟩ := hx i (by omega)
   rw [ce] at h1
   obtain ⟨_, hlen, hcell⟩ := World.cells?_some h1
   obtain ⟨z, rfl, hz⟩ := elem n cs _ hlen h2
   refine ⟨z, fun r u hu => ?_, hz⟩
   have hr : r < c := by
    rcases Nat.lt_or_ge r (f z).length with h | h
    ·rw [hc] at h; exact h
    ·rw [List.getElem?_eq_none h] at hu; cases hu
   have c0 := hcell r hr
   rw [Deep.add_add] at c0
   rw [c0, <- hu]
  obtain ⟨g, hg⟩ := Deep.choose_lt each
  unfold maxLen at hm
  refine ⟨(List.range len0).map g, by simp, ?_, by simp; omega, ?_, hl⟩
  ·cases len0 with
   | zero => simp; exact RowAt.nil
   | succ l =>
    obtain ⟨b, off, spot⟩ := a
    have h00 : 0 < (f (g 0)).length := by rw [hc]; exact h0
    have hspot : spot = none := by
     have := World.cell?_spot ((hg 0 (by omega)).1 0 _ (List.getElem?_eq_getElem h00))
     simpa [Addr.add] using this
    subst hspot
    refine row_of hc h0 fun q hq r u hu => ?_
    have hq' : q < l + 1 := by simpa using hq
    have := (hg q hq').1 r u (by simpa using hu)
    rwa [Addr.add_lit] at this
  ·intro y hy
   obtain ⟨j, hj, rfl⟩ := List.mem_map.1 hy
   exact (hg j (by simpa using hj)).2

theorem trod_act {H : Type} {enc : TypeId × Value -> H} {W : World} {base : Nat} {sp : Nat -> Bool} {held : Bool} {fuel : Nat} {u v q : Value} {x : DataW H × List MemPlace}
  (h : DataW.trod enc Tryz.prog W base sp held fuel 92 [u, v, q] = some x) : ∃ k s n, u = .int .i64 k /\ v = .string s /\ q = .int .i64 n /\ inI k /\ s.size <= 9223372036854775807 /\ inI n := by
 obtain ⟨y0, y1, y2, n, _, _, t0, t1, t2⟩ := Deep.trod_struct3 Tryz.underlying92 h
 have k0 : Tryz.prog.cellsOf 3 = 1 := by kernel_rfl
 have k1 : Tryz.prog.cellsOf 9 = 1 := by kernel_rfl
 have k2 : Tryz.prog.cellsOf 2 = 1 := by kernel_rfl
 simp [k0, k1, k2] at t0 t1 t2
 obtain ⟨z0, e0, _, r0⟩ := DataW.trod_int Tryz.underlying3 t0
 obtain ⟨z1, e1, _, r1⟩ := DataW.trod_string Tryz.underlying9 t1
 obtain ⟨z2, e2, _, r2⟩ := DataW.trod_int Tryz.underlying2 t2
 simp at e0 e1 e2
 subst e0 e1 e2
 unfold maxLen at r1
 exact ⟨z0, z1, z2, rfl, rfl, rfl, rng_int r0, by omega, rng_int r2⟩
theorem trod_struct5 {P : Program} {H : Type} {enc : TypeId × Value -> H} {w : World} {base : Nat} {spare : Nat -> Bool} {held : Bool} {t : TypeId} {f0 f1 f2 f3 f4 : Field} {fuel : Nat} {cs : List Value} {x : DataW H × List MemPlace} (ht : P.underlying t = some (.struct #[f0, f1, f2, f3, f4])) (h : DataW.trod enc P w base spare held fuel t cs = some x) :
  ∃ y0 y1 y2 y3 y4 n, DataW.trod enc P w base spare held n f0.type ((cs.drop f0.offset).take (P.cellsOf f0.type)) = some y0 /\
   DataW.trod enc P w base spare held n f1.type ((cs.drop f1.offset).take (P.cellsOf f1.type)) = some y1 /\ DataW.trod enc P w base spare held n f2.type ((cs.drop f2.offset).take (P.cellsOf f2.type)) = some y2 /\
   DataW.trod enc P w base spare held n f3.type ((cs.drop f3.offset).take (P.cellsOf f3.type)) = some y3 /\ DataW.trod enc P w base spare held n f4.type ((cs.drop f4.offset).take (P.cellsOf f4.type)) = some y4 := by
 obtain ⟨xs, n, _, rfl, hl, hlen, hf⟩ := DataW.trod_struct ht h
 match xs, hlen with
 | [y0, y1, y2, y3, y4], _ => exact ⟨y0, y1, y2, y3, y4, n, by simpa using hf 0 f0 rfl, by simpa using hf 1 f1 rfl, by simpa using hf 2 f2 rfl, by simpa using hf 3 f3 rfl, by simpa using hf 4 f4 rfl⟩
theorem trod_stp {H : Type} {enc : TypeId × Value -> H} {W : World} {base : Nat} {sp : Nat -> Bool} {held : Bool} (n : Nat) (cs : List Value) (y : DataW H × List MemPlace) (hl : cs.length = 7)
  (h : DataW.trod enc Tryz.prog W base sp held n 94 cs = some y) : ∃ z : Stp, cs = stpC z /\ inS z := by
 match cs, hl with
 | [v0, v1, v2, v3, v4, v5, v6], _ =>
  obtain ⟨y0, y1, y2, y3, y4, n, t0, t1, t2, t3, t4⟩ := trod_struct5 Tryz.underlying94 h
  have k0 : Tryz.prog.cellsOf 3 = 1 := by kernel_rfl
  have k1 : Tryz.prog.cellsOf 9 = 1 := by kernel_rfl
  have k3 : Tryz.prog.cellsOf 92 = 3 := by kernel_rfl
  simp [k0, k1, k3] at t0 t1 t2 t3 t4
  obtain ⟨o, e1, _, r1⟩ := DataW.trod_int Tryz.underlying3 t1
  obtain ⟨u, e2, _, r2⟩ := DataW.trod_string Tryz.underlying9 t2
  obtain ⟨ty, e3, _, r3⟩ := DataW.trod_int Tryz.underlying3 t3
  obtain ⟨wt, e4, _, r4⟩ := DataW.trod_int Tryz.underlying3 t4
  simp at e1 e2 e3 e4
  subst e1 e2 e3 e4
  obtain ⟨k, a, m, rfl, rfl, rfl, h1, h2, h3⟩ := trod_act t0
  unfold maxLen at r2
  exact ⟨⟨k, a, m, o, u, ty, wt⟩, rfl, h2, (by show u.size <= _; omega), h1, h3, rng_int r1, rng_int r3, rng_int r4⟩
theorem trod_id {H : Type} {enc : TypeId × Value -> H} {W : World} {base : Nat} {sp : Nat -> Bool} {held : Bool} {fuel : Nat} {a b c : Value} {x : DataW H × List MemPlace}
  (h : DataW.trod enc Tryz.prog W base sp held fuel 24 [a, b, c] = some x) :
  ∃ r n ad cap, ∃ L : List (Int × Int), a = .int .i64 r /\ b = .int .i64 n /\ c = .slice ad L.length cap /\ HopsAt W ad L /\ L.length <= 9223372036854775807 /\ L.length <= cap := by
 obtain ⟨y0, y1, y2, n, _, _, t0, t1, t2⟩ := Deep.trod_struct3 Tryz.underlying24 h
 have k0 : Tryz.prog.cellsOf 3 = 1 := by kernel_rfl
 have k1 : Tryz.prog.cellsOf 22 = 1 := by kernel_rfl
 simp [k0, k1] at t0 t1 t2
 obtain ⟨z0, e0, _⟩ := DataW.trod_int Tryz.underlying3 t0
 obtain ⟨z1, e1, _⟩ := DataW.trod_int Tryz.underlying3 t1
 obtain ⟨ad, cap, L, e2, h1, h2, h3, h4⟩ := open_hops t2
 simp at e0 e1
 exact ⟨z0, z1, ad, cap, L, e0, e1, e2, h1, h2, h3⟩
theorem trod_def {H : Type} {enc : TypeId × Value -> H} {W : World} {base : Nat} {sp : Nat -> Bool} {held : Bool} {fuel : Nat} {v0 v1 : Value} {x : DataW H × List MemPlace}
  (h : DataW.trod enc Tryz.prog W base sp held fuel 27 [v0, v1] = some x) :
  ∃ nm ad cap, ∃ L : List Stp, v0 = .string nm /\ v1 = .slice ad L.length cap /\ nm.size <= 9223372036854775807 /\ StpsAt W ad L /\ L.length <= 9223372036854775807 /\ (∀ s ∈ L, inS s) /\ L.length <= cap := by
 obtain ⟨y0, y1, n, _, _, t0, t1⟩ := trod_struct2 Tryz.underlying27 h
 have k0 : Tryz.prog.cellsOf 9 = 1 := by kernel_rfl
 have k1 : Tryz.prog.cellsOf 25 = 1 := by kernel_rfl
 simp [k0, k1] at t0 t1
 obtain ⟨nm, e0, _, r0⟩ := DataW.trod_string Tryz.underlying9 t0
 simp at e0
 subst e0
 have s1 : ∃ a l c, v1 = .slice a l c := by
  rcases Deep.open_slice Tryz.underlying25 t1 with ⟨hcs, _⟩ | ⟨a, len, cap, _, _, _, _, hcs, _⟩
  ·simp at hcs; exact ⟨_, _, _, hcs⟩
  ·simp at hcs; exact ⟨_, _, _, hcs⟩
 obtain ⟨b, lb, cb, rfl⟩ := s1
 have hiA : Inhabited Stp := ⟨⟨0, ⟨#[]⟩, 0, 0, ⟨#[]⟩, 0, 0⟩⟩
 obtain ⟨L, rfl, h1, h2, h3, h4⟩ := open_rows stpC_len (by decide) Tryz.underlying25 (by kernel_rfl) trod_stp t1
 unfold maxLen at r0
 exact ⟨nm, b, cb, L, rfl, rfl, by omega, h1, h2, h3, h4⟩

theorem trod_move {H : Type} {enc : TypeId × Value -> H} {W : World} {base : Nat} {sp : Nat -> Bool} {held : Bool} {fuel : Nat} {c0 c1 c2 c3 c4 c5 c6 c7 : Value} {x : DataW H × List MemPlace}
  (h : DataW.trod enc Tryz.prog W base sp held fuel 29 [c0, c1, c2, c3, c4, c5, c6, c7] = some x) : ∃ m a1 e1 a2 e2, [c0, c1, c2, c3, c4, c5, c6, c7] = mvC m a1 e1 a2 e2 /\ MvIn W m a1 e1 a2 e2 := by
 obtain ⟨y0, y1, y2, y3, y4, n, t0, t1, t2, t3, t4⟩ := trod_struct5 Tryz.underlying29 h
 have k0 : Tryz.prog.cellsOf 3 = 1 := by kernel_rfl
 have k2 : Tryz.prog.cellsOf 27 = 2 := by kernel_rfl
 have k3 : Tryz.prog.cellsOf 24 = 3 := by kernel_rfl
 simp [k0, k2, k3] at t0 t1 t2 t3 t4
 obtain ⟨z0, e0, _⟩ := DataW.trod_int Tryz.underlying3 t0
 obtain ⟨r, m, ad, cap, L, f1, f2, f3, h1, h2, h3⟩ := trod_id t1
 obtain ⟨z2, e2, _⟩ := DataW.trod_int Tryz.underlying3 t2
 obtain ⟨z3, e3, _⟩ := DataW.trod_int Tryz.underlying3 t3
 obtain ⟨nm, a2, p2, S, g1, g2, g3, g4, g5, g6, g7⟩ := trod_def t4
 simp at e0 e2 e3
 subst e0 e2 e3 f1 f2 f3 g1 g2
 exact ⟨⟨z0, r, m, L, z2, z3, nm, S⟩, ad, cap, a2, p2, rfl, ⟨h1, g4, h2, g5, g3, g6⟩⟩

theorem open_rec {H : Type} {enc : TypeId × Value -> H} {W : World} {base : Nat} {v : Value} {d : DataW H} {ps : List MemPlace}
  (hok : Value.okWide Tryz.prog W .any base 31 v) (h : DataW.Trod enc Tryz.prog W 0 (fun _ => true) true 31 v d ps) :
  ∃ (x : Rc) (a1 : Option Addr) (c1 : Nat) (a2 : Option Addr) (c2 : Nat) (a3 : Option Addr) (c3 : Nat), v = .agg #[.int .i64 x.k, .int .i64 x.m.k, .int .i64 x.m.r, .int .i64 x.m.n, .slice a1 x.m.L.length c1, .int .i64 x.m.s, .int .i64 x.m.y, .string x.m.d, .slice a2 x.m.S.length c2, .string x.a, .int .i64 x.v, .string x.d, .slice a3 x.S.length c3, .string x.t] /\ RcIn W x a1 c1 a2 c2 a3 c3 := by
 obtain ⟨cs, rfl, hsz⟩ := okWide_struct Tryz.underlying31 hok
 have hsz14 : cs.size = 14 := hsz.trans (by kernel_rfl)
 obtain ⟨l⟩ := cs
 have k0 : Tryz.prog.cellsOf 3 = 1 := by kernel_rfl
 have k1 : Tryz.prog.cellsOf 9 = 1 := by kernel_rfl
 have k4 : Tryz.prog.cellsOf 2 = 1 := by kernel_rfl
 have k2 : Tryz.prog.cellsOf 27 = 2 := by kernel_rfl
 have k8 : Tryz.prog.cellsOf 29 = 8 := by kernel_rfl
 match l, hsz14 with
 | [b0, c0, c1, c2, c3, c4, c5, c6, c7, b1, b2, b3, b4, b5], _ =>
  obtain ⟨fuel, hf⟩ := h
  have hf' : DataW.trod enc Tryz.prog W 0 (fun _ => true) true fuel 31 [b0, c0, c1, c2, c3, c4, c5, c6, c7, b1, b2, b3, b4, b5] = some (d, ps) := by simpa [Value.cells] using hf
  obtain ⟨xs, n, _, hx, hl, hlen, hg⟩ := DataW.trod_struct Tryz.underlying31 hf'
  match xs, hlen with
  | [y0, y1, y2, y3, y4, y5], _ =>
   have t0 := hg 0 _ rfl
   have t1 := hg 1 _ rfl
   have t2 := hg 2 _ rfl
   have t3 := hg 3 _ rfl
   have t4 := hg 4 _ rfl
   have t5 := hg 5 _ rfl
   simp [k0, k1, k2, k4, k8] at t0 t1 t2 t3 t4 t5
   obtain ⟨z0, e0, _⟩ := DataW.trod_int Tryz.underlying3 t0
   obtain ⟨m, a1, p1, a2, p2, e1, h1⟩ := trod_move t1
   obtain ⟨z2, e2, _, r2⟩ := DataW.trod_string Tryz.underlying9 t2
   obtain ⟨z3, e3, _⟩ := DataW.trod_int Tryz.underlying2 t3
   obtain ⟨nm, a3, p3, S, g1, g2, g3, g4, g5, g6, g7⟩ := trod_def t4
   obtain ⟨z5, e5, _, r5⟩ := DataW.trod_string Tryz.underlying9 t5
   simp at e0 e2 e3 e5
   subst e0 e2 e3 e5 g1 g2
   unfold maxLen at r2 r5
   refine ⟨⟨z0, m, z2, z3, nm, S, z5⟩, a1, p1, a2, p2, a3, p3, ?_, ⟨h1, g4, g5, g3, g6, by show z2.size <= _; omega, by show z5.size <= _; omega⟩⟩
   have := congrArg (fun l => Value.int .i64 z0 :: (l ++ [.string z2, .int .i64 z3, .string nm, .slice a3 S.length p3, .string z5])) e1
   exact congrArg (fun l => Value.agg (List.toArray l)) this
end Go.Proofs.YthaadiclopoamaaGreatDoor
