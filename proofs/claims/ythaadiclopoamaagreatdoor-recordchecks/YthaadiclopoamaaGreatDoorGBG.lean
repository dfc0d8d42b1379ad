/- Parts of these proofs, laid together. -/
import Derived.Test.YthaadiclopoamaaGreatDoorGBE
import Derived.Test.YthaadiclopoamaaGreatDoorGV
import Derived.Test.YthaadiclopoamaaGreatDoorGBF
import Derived.Test.YthaadiclopoamaaGreatDoorGBB
/- the document's record: Show. -/
set_option maxRecDepth 100000
set_option maxHeartbeats 8000000
namespace Go.Proofs.YthaadiclopoamaaGreatDoor
open Go.RowKit
open Df (Stp)

def wordV : List Value := [.string ⟨#[]⟩, .string ⟨#[98, 101, 103, 105, 110]⟩, .string ⟨#[114, 101, 102, 117, 115, 101]⟩, .string ⟨#[102, 97, 105, 108]⟩, .string ⟨#[100, 111]⟩, .string ⟨#[97, 115, 107]⟩, .string ⟨#[103, 111, 116]⟩, .string ⟨#[108, 111, 115, 116]⟩, .string ⟨#[104, 111, 108, 100]⟩, .string ⟨#[99, 111, 109, 109, 105, 116]⟩, .string ⟨#[98, 97, 99, 107]⟩, .string ⟨#[117, 110, 100, 111]⟩, .string ⟨#[106, 97, 109]⟩, .string ⟨#[97, 103, 97, 105, 110]⟩, .string ⟨#[101, 110, 100]⟩, .string ⟨#[107, 101, 112, 116]⟩, .string ⟨#[102, 111, 114, 99, 101]⟩]
theorem word_at (j : Nat) (h1 : 1 <= j) (h2 : j <= 16) : wordV[j]? = some (.string ⟨(Rc.wordL (j : Int)).toArray⟩) := by
 rcases (show j = 1 ∨ j = 2 ∨ j = 3 ∨ j = 4 ∨ j = 5 ∨ j = 6 ∨ j = 7 ∨ j = 8 ∨ j = 9 ∨ j = 10 ∨ j = 11 ∨ j = 12 ∨ j = 13 ∨ j = 14 ∨ j = 15 ∨ j = 16 by omega) with rfl | rfl | rfl | rfl | rfl | rfl | rfl | rfl | rfl | rfl | rfl | rfl | rfl | rfl | rfl | rfl <;> rfl
theorem Rc.flags2 (k y : Int) (h1 : 1 <= k) (h2 : k <= 16) (hy : Rc.wyB (Rc.wyK k) y = true) :
  (stpB8 k = true /\ Rc.stK k = 8 /\ Rc.wyK k = false /\ ¬ k = 1 /\ y = 0) ∨ (k = 16 /\ y = 0) ∨ (stpB8 k = false /\ ¬ k = 16 /\ Rc.stK k = 0 /\ Rc.wyK k = true /\ ¬ k = 1 /\ 0 < y) ∨ (k = 1 /\ y = 0) ∨ (stpB8 k = false /\ ¬ k = 16 /\ Rc.stK k = 0 /\ Rc.wyK k = false /\ ¬ k = 1 /\ y = 0) := by
 have e1 : Rc.wyB true y = true -> 0 < y := fun h => by have := Rc.inB_iff.1 (show Rc.inB y 1 9 = true from h); omega
 have e2 : Rc.wyB false y = true -> y = 0 := fun h => of_decide_eq_true (show decide (y = 0) = true from h)
 rcases (show k = 1 ∨ k = 2 ∨ k = 3 ∨ k = 4 ∨ k = 5 ∨ k = 6 ∨ k = 7 ∨ k = 8 ∨ k = 9 ∨ k = 10 ∨ k = 11 ∨ k = 12 ∨ k = 13 ∨ k = 14 ∨ k = 15 ∨ k = 16 by omega) with rfl | rfl | rfl | rfl | rfl | rfl | rfl | rfl | rfl | rfl | rfl | rfl | rfl | rfl | rfl | rfl
 ·exact Or.inr (Or.inr (Or.inr (Or.inl ⟨rfl, e2 hy⟩)))
 ·exact Or.inr (Or.inr (Or.inl ⟨rfl, by decide, rfl, rfl, by decide, e1 hy⟩))
 ·exact Or.inl ⟨rfl, rfl, rfl, by decide, e2 hy⟩
 ·exact Or.inl ⟨rfl, rfl, rfl, by decide, e2 hy⟩
 ·exact Or.inl ⟨rfl, rfl, rfl, by decide, e2 hy⟩
 ·exact Or.inl ⟨rfl, rfl, rfl, by decide, e2 hy⟩
 ·exact Or.inl ⟨rfl, rfl, rfl, by decide, e2 hy⟩
 ·exact Or.inr (Or.inr (Or.inr (Or.inr ⟨rfl, by decide, rfl, rfl, by decide, e2 hy⟩)))
 ·exact Or.inr (Or.inr (Or.inr (Or.inr ⟨rfl, by decide, rfl, rfl, by decide, e2 hy⟩)))
 ·exact Or.inr (Or.inr (Or.inl ⟨rfl, by decide, rfl, rfl, by decide, e1 hy⟩))
 ·exact Or.inl ⟨rfl, rfl, rfl, by decide, e2 hy⟩
 ·exact Or.inl ⟨rfl, rfl, rfl, by decide, e2 hy⟩
 ·exact Or.inr (Or.inr (Or.inr (Or.inr ⟨rfl, by decide, rfl, rfl, by decide, e2 hy⟩)))
 ·exact Or.inr (Or.inr (Or.inr (Or.inr ⟨rfl, by decide, rfl, rfl, by decide, e2 hy⟩)))
 ·exact Or.inl ⟨rfl, rfl, rfl, by decide, e2 hy⟩
 ·exact Or.inr (Or.inl ⟨rfl, e2 hy⟩)

theorem qshow_any (k r n : Int) (L : List (Int × Int)) (s y : Int) (d : ByteArray) (S : List Stp) (a1 : Option Addr) (e1 : Nat) (a2 : Option Addr) (e2 : Nat) (w : World) (h : MvIn w (⟨k, r, n, L, s, y, d, S⟩ : Mv) a1 e1 a2 e2) :
  Calls Tryz.prog 11 #[.agg #[.int .i64 k, .int .i64 r, .int .i64 n, .slice a1 L.length e1, .int .i64 s, .int .i64 y, .string d, .slice a2 S.length e2]] w fun e w' => e = .returned (.tuple #[.string ⟨(Rc.shL (⟨k, r, n, L, s, y, d, S⟩ : Mv)).toArray⟩, .int .i64 (Rc.mvE (⟨k, r, n, L, s, y, d, S⟩ : Mv))]) /\ Gr w w' := by
 have HC : Hid (∀ w', Gr w w' -> Calls Tryz.prog 13 #[.agg #[.int .i64 k, .int .i64 r, .int .i64 n, .slice a1 L.length e1, .int .i64 s, .int .i64 y, .string d, .slice a2 S.length e2]] w' fun e w2 => e = .returned (.int .i64 (if Rc.mvB (⟨k, r, n, L, s, y, d, S⟩ : Mv) = true then 0 else 140)) /\ Gr w' w2) := fun w' g => rmove_any k r n L s y d S a1 e1 a2 e2 w' (h.gr g)
 have HR : Hid (Rc.shL (⟨k, r, n, L, s, y, d, S⟩ : Mv) = if Rc.mvB (⟨k, r, n, L, s, y, d, S⟩ : Mv) = true then Rc.wordL k ++ [32] ++ Idn.showT r n L ++ (if 0 < Rc.stK k then [32] ++ Lib.decDigits s.toNat else []) ++ (if Rc.wyK k = true then [32] ++ Lib.decDigits y.toNat else []) ++ (if k = 1 then [32] ++ d.data.toList else []) else []) := rfl
 have HE : Hid (Rc.mvE (⟨k, r, n, L, s, y, d, S⟩ : Mv) = if Rc.mvB (⟨k, r, n, L, s, y, d, S⟩ : Mv) = true then 0 else 140) := rfl
 generalize Rc.shL (⟨k, r, n, L, s, y, d, S⟩ : Mv) = R at *
 generalize Rc.mvE (⟨k, r, n, L, s, y, d, S⟩ : Mv) = E at *
 by_cases hb : Rc.mvB (⟨k, r, n, L, s, y, d, S⟩ : Mv) = true
 ·rw [if_pos hb] at HC HR HE
  obtain ⟨hk, hi, hdf, hy, hs⟩ := Rc.may_move hb
  simp only at hk hi hdf hy hs
  have hwyb : Rc.wyB (Rc.wyK k) y = true := by
   unfold Rc.mvB Rc.mvF at hb
   simp only [Bool.and_eq_true] at hb
   exact hb.2.1.2
  have hsl := Rc.id_len hi
  have hd16 : d.size <= 16 := by
   rcases Rc.df_or hdf with q | q
   ·exact name_le ((Df.def_iff _ _).1 q).1
   ·rw [(Rc.ba_iff.1 q).1]; decide
  have hdsz : d.data.toList.length = d.size := by simp
  have HS : Hid (∀ w', Gr w w' -> Calls Tryz.prog 24 #[.agg #[.int .i64 r, .int .i64 n, .slice a1 L.length e1]] w' fun e w2 => e = .returned (.tuple #[.string ⟨(Idn.showT r n L).toArray⟩, .int .i64 0]) /\ Gr w' w2) := by
   intro w' g
   refine (refShow_any r n L a1 e1 w' (h.hops.gr g) h.nL).mono ?_
   rintro e w2 ⟨⟨_, q⟩ | ⟨q, _⟩, hg⟩
   ·exact ⟨q, hg⟩
   ·rw [hi] at q; cases q
  have HP : Hid (∀ w', Gr w w' -> Calls Tryz.prog 25 #[.int .i64 k] w' fun e w2 => e = .returned (.bool (stpB8 k)) /\ Gr w' w2) := fun w' _ => (steps_any k w').mono fun _ _ q => ⟨q.1, by rw [q.2]; exact Gr.refl _⟩
  have HT : Hid (∀ w', Gr w w' -> Calls Tryz.prog 26 #[.int .i64 s] w' fun e w2 => e = .returned (.string ⟨(Lib.decDigits s.toNat).toArray⟩) /\ Gr w' w2) := by
   intro w' g
   have := digits_any s.toNat w' (by omega)
   rw [show ((s.toNat : Nat) : Int) = s by omega] at this
   exact this.mono fun _ _ q => ⟨q.1, by rw [q.2]; exact Gr.refl _⟩
  have HY : Hid (∀ w', Gr w w' -> Calls Tryz.prog 26 #[.int .i64 y] w' fun e w2 => e = .returned (.string ⟨(Lib.decDigits y.toNat).toArray⟩) /\ Gr w' w2) := by
   intro w' g
   have := digits_any y.toNat w' (by omega)
   rw [show ((y.toNat : Nat) : Int) = y by omega] at this
   exact this.mono fun _ _ q => ⟨q.1, by rw [q.2]; exact Gr.refl _⟩
  have l1 : (Lib.decDigits s.toNat).length <= 1 := digs_len s.toNat 0 (by omega)
  have l2 : (Lib.decDigits y.toNat).length <= 1 := digs_len y.toNat 0 (by omega)
  have l3 := Rc.word_len k
  have hfl := Rc.flags2 k y hk.1 hk.2 hwyb
  obtain ⟨j, hj1, hj2, rfl⟩ : ∃ j : Nat, 1 <= j /\ j <= 16 /\ k = (j : Int) := ⟨k.toNat, by omega, by omega, by omega⟩
  have HJ : Hid (wordV[j]? = some (.string ⟨(Rc.wordL (j : Int)).toArray⟩)) := word_at j hj1 hj2
  generalize Rc.wordL (j : Int) = wd at *
  generalize Idn.showT r n L = st0 at *
  generalize Lib.decDigits s.toNat = ds at *
  generalize Lib.decDigits y.toNat = dy at *
  have q1 := add_lists wd [32] (by simp; omega)
  have q2 := add_lists (wd ++ [32]) st0 (by simp; omega)
  have q3 := add_lists (wd ++ [32] ++ st0) [32] (by simp; omega)
  have q4 := add_lists (wd ++ [32] ++ st0 ++ [32]) ds (by simp; omega)
  have q6 := add_lists (wd ++ [32] ++ st0 ++ [32]) dy (by simp; omega)
  have q8 := add_lists (wd ++ [32] ++ st0 ++ [32]) d.data.toList (by simp; omega)
  rw [mk_data] at q8
  have i1 : (0 : Int) <= (j : Int) := by omega
  have i2 : (j : Int) < 17 := by omega
  clear h hb hk hi hdf hy hs hsl hd16 hdsz l1 l2 l3 hwyb
  rcases hfl with ⟨hs8, hst, hwy, hn1, hy0⟩ | ⟨hk16, hy0⟩ | ⟨hs8, hn16, hst, hwy, hn1, hyp⟩ | ⟨hk1, hy0⟩ | ⟨hs8, hn16, hst, hwy, hn1, hy0⟩
  ·subst hy0
   rw [hst, hwy, if_pos (by decide), if_neg (by decide), if_neg hn1, List.append_nil, List.append_nil, <- List.append_assoc] at HR
   rw [hs8] at HP
   have n1 : ((j : Int) == 1) = false := by simpa using hn1
   clear hn1
   generalize wd ++ [32] ++ st0 ++ [32] ++ ds = uz at *
   generalize wd ++ [32] ++ st0 ++ [32] = u3 at *
   generalize wd ++ [32] ++ st0 = u2 at *
   generalize wd ++ [32] = u1 at *
   go_enter Tryz.func11, Tryz.ntmps11
   go_wp2_with fail
   refine (HC.out _ ?_).mono ?_
   ·exact (Gr.refl _).alloc
   rintro e4 w1 ⟨rfl, hg1⟩
   have G1 := (Gr.refl w).alloc.trans hg1
   have B1 := (Cs.new w _ _ _ rfl).gr hg1
   clear hg1
   obtain ⟨c0, c1, c2, c3, c4, c5, c6, c7, clt⟩ := B1.c8
   go_wp2_with fail
   refine (HS.out _ G1.alloc).mono ?_
   rintro e5 w2 ⟨rfl, hg2⟩
   have G2 : Gr w w2 := G1.alloc.trans hg2
   have B2 := B1.alloc.gr hg2
   have W2 : Cs w2 w1.heap.size wordV := (Cs.new w1 wordV 9 _ rfl).gr hg2
   have hwd := W2.at_ j _ HJ.out
   clear hg2 B1 W2 clt c0 c1 c2 c3 c4 c5 c6 c7
   obtain ⟨c0, c1, c2, c3, c4, c5, c6, c7, clt⟩ := B2.c8
   go_wp2_with fail
   refine (HP.out _ G2).mono ?_
   rintro e6 w3 ⟨rfl, hg3⟩
   have G3 : Gr w w3 := G2.trans hg3
   have B3 := B2.gr hg3
   clear hg3 B2 hwd clt c0 c1 c2 c3 c4 c5 c6 c7
   obtain ⟨c0, c1, c2, c3, c4, c5, c6, c7, clt⟩ := B3.c8
   go_wp2_with fail
   refine (HT.out _ G3).mono ?_
   rintro e7 w4 ⟨rfl, hg4⟩
   have G4 : Gr w w4 := G3.trans hg4
   have B4 := B3.gr hg4
   clear hg4 B3 clt c0 c1 c2 c3 c4 c5 c6 c7
   obtain ⟨c0, c1, c2, c3, c4, c5, c6, c7, clt⟩ := B4.c8
   go_wp2
   go_ret2
   exact ⟨by rw [HR.out, HE.out]; rfl, G4⟩
  ·subst hy0
   obtain rfl : j = 16 := by omega
   clear hk16
   rw [if_pos (by decide), if_neg (by decide), if_neg (by decide), List.append_nil, List.append_nil, <- List.append_assoc] at HR
   rw [show stpB8 ((16 : Nat) : Int) = false from rfl] at HP
   generalize wd ++ [32] ++ st0 ++ [32] ++ ds = uz at *
   generalize wd ++ [32] ++ st0 ++ [32] = u3 at *
   generalize wd ++ [32] ++ st0 = u2 at *
   generalize wd ++ [32] = u1 at *
   go_enter Tryz.func11, Tryz.ntmps11
   go_wp2_with fail
   refine (HC.out _ ?_).mono ?_
   ·exact (Gr.refl _).alloc
   rintro e4 w1 ⟨rfl, hg1⟩
   have G1 := (Gr.refl w).alloc.trans hg1
   have B1 := (Cs.new w _ _ _ rfl).gr hg1
   clear hg1
   obtain ⟨c0, c1, c2, c3, c4, c5, c6, c7, clt⟩ := B1.c8
   go_wp2_with fail
   refine (HS.out _ G1.alloc).mono ?_
   rintro e5 w2 ⟨rfl, hg2⟩
   have G2 : Gr w w2 := G1.alloc.trans hg2
   have B2 := B1.alloc.gr hg2
   have W2 : Cs w2 w1.heap.size wordV := (Cs.new w1 wordV 9 _ rfl).gr hg2
   have hwd := W2.at_ 16 _ HJ.out
   clear hg2 B1 W2 clt c0 c1 c2 c3 c4 c5 c6 c7
   obtain ⟨c0, c1, c2, c3, c4, c5, c6, c7, clt⟩ := B2.c8
   go_wp2_with fail
   refine (HP.out _ G2).mono ?_
   rintro e6 w3 ⟨rfl, hg3⟩
   have G3 : Gr w w3 := G2.trans hg3
   have B3 := B2.gr hg3
   clear hg3 B2 hwd clt c0 c1 c2 c3 c4 c5 c6 c7
   obtain ⟨c0, c1, c2, c3, c4, c5, c6, c7, clt⟩ := B3.c8
   go_wp2_with fail
   refine (HT.out _ G3).mono ?_
   rintro e7 w4 ⟨rfl, hg4⟩
   have G4 : Gr w w4 := G3.trans hg4
   have B4 := B3.gr hg4
   clear hg4 B3 clt c0 c1 c2 c3 c4 c5 c6 c7
   obtain ⟨c0, c1, c2, c3, c4, c5, c6, c7, clt⟩ := B4.c8
   go_wp2
   go_ret2
   exact ⟨by rw [HR.out, HE.out]; rfl, G4⟩
  ·rw [hst, hwy, if_neg (by decide), if_pos rfl, if_neg hn1, List.append_nil, List.append_nil, <- List.append_assoc] at HR
   rw [hs8] at HP
   have n1 : ((j : Int) == 1) = false := by simpa using hn1
   have n16 : ((j : Int) == 16) = false := by simpa using hn16
   clear hn1 hn16
   generalize wd ++ [32] ++ st0 ++ [32] ++ dy = uz at *
   generalize wd ++ [32] ++ st0 ++ [32] = u3 at *
   generalize wd ++ [32] ++ st0 = u2 at *
   generalize wd ++ [32] = u1 at *
   go_enter Tryz.func11, Tryz.ntmps11
   go_wp2_with fail
   refine (HC.out _ ?_).mono ?_
   ·exact (Gr.refl _).alloc
   rintro e4 w1 ⟨rfl, hg1⟩
   have G1 := (Gr.refl w).alloc.trans hg1
   have B1 := (Cs.new w _ _ _ rfl).gr hg1
   clear hg1
   obtain ⟨c0, c1, c2, c3, c4, c5, c6, c7, clt⟩ := B1.c8
   go_wp2_with fail
   refine (HS.out _ G1.alloc).mono ?_
   rintro e5 w2 ⟨rfl, hg2⟩
   have G2 : Gr w w2 := G1.alloc.trans hg2
   have B2 := B1.alloc.gr hg2
   have W2 : Cs w2 w1.heap.size wordV := (Cs.new w1 wordV 9 _ rfl).gr hg2
   have hwd := W2.at_ j _ HJ.out
   clear hg2 B1 W2 clt c0 c1 c2 c3 c4 c5 c6 c7
   obtain ⟨c0, c1, c2, c3, c4, c5, c6, c7, clt⟩ := B2.c8
   go_wp2_with fail
   refine (HP.out _ G2).mono ?_
   rintro e6 w3 ⟨rfl, hg3⟩
   have G3 : Gr w w3 := G2.trans hg3
   have B3 := B2.gr hg3
   clear hg3 B2 hwd clt c0 c1 c2 c3 c4 c5 c6 c7
   obtain ⟨c0, c1, c2, c3, c4, c5, c6, c7, clt⟩ := B3.c8
   go_wp2_with fail
   refine (HY.out _ G3).mono ?_
   rintro e7 w4 ⟨rfl, hg4⟩
   have G4 : Gr w w4 := G3.trans hg4
   have B4 := B3.gr hg4
   clear hg4 B3 clt c0 c1 c2 c3 c4 c5 c6 c7
   obtain ⟨c0, c1, c2, c3, c4, c5, c6, c7, clt⟩ := B4.c8
   go_wp2
   go_ret2
   exact ⟨by rw [HR.out, HE.out]; rfl, G4⟩
  ·subst hy0
   obtain rfl : j = 1 := by omega
   clear hk1
   rw [if_neg (by decide), if_neg (by decide), if_pos (show ((1 : Nat) : Int) = 1 from rfl), List.append_nil, List.append_nil, <- List.append_assoc] at HR
   rw [show stpB8 ((1 : Nat) : Int) = false from rfl] at HP
   generalize wd ++ [32] ++ st0 ++ [32] ++ d.data.toList = uz at *
   generalize wd ++ [32] ++ st0 ++ [32] = u3 at *
   generalize wd ++ [32] ++ st0 = u2 at *
   generalize wd ++ [32] = u1 at *
   go_enter Tryz.func11, Tryz.ntmps11
   go_wp2_with fail
   refine (HC.out _ ?_).mono ?_
   ·exact (Gr.refl _).alloc
   rintro e4 w1 ⟨rfl, hg1⟩
   have G1 := (Gr.refl w).alloc.trans hg1
   have B1 := (Cs.new w _ _ _ rfl).gr hg1
   clear hg1
   obtain ⟨c0, c1, c2, c3, c4, c5, c6, c7, clt⟩ := B1.c8
   go_wp2_with fail
   refine (HS.out _ G1.alloc).mono ?_
   rintro e5 w2 ⟨rfl, hg2⟩
   have G2 : Gr w w2 := G1.alloc.trans hg2
   have B2 := B1.alloc.gr hg2
   have W2 : Cs w2 w1.heap.size wordV := (Cs.new w1 wordV 9 _ rfl).gr hg2
   have hwd := W2.at_ 1 _ HJ.out
   clear hg2 B1 W2 clt c0 c1 c2 c3 c4 c5 c6 c7
   obtain ⟨c0, c1, c2, c3, c4, c5, c6, c7, clt⟩ := B2.c8
   go_wp2_with fail
   refine (HP.out _ G2).mono ?_
   rintro e6 w3 ⟨rfl, hg3⟩
   have G3 : Gr w w3 := G2.trans hg3
   have B3 := B2.gr hg3
   clear hg3 B2 hwd clt c0 c1 c2 c3 c4 c5 c6 c7
   obtain ⟨c0, c1, c2, c3, c4, c5, c6, c7, clt⟩ := B3.c8
   go_wp2
   go_ret2
   exact ⟨by rw [HR.out, HE.out]; rfl, G3⟩
  ·subst hy0
   rw [hst, hwy, if_neg (by decide), if_neg (by decide), if_neg hn1, List.append_nil, List.append_nil, List.append_nil] at HR
   rw [hs8] at HP
   have n1 : ((j : Int) == 1) = false := by simpa using hn1
   have n16 : ((j : Int) == 16) = false := by simpa using hn16
   clear hn1 hn16
   generalize wd ++ [32] ++ st0 ++ [32] = u3 at *
   generalize wd ++ [32] ++ st0 = u2 at *
   generalize wd ++ [32] = u1 at *
   go_enter Tryz.func11, Tryz.ntmps11
   go_wp2_with fail
   refine (HC.out _ ?_).mono ?_
   ·exact (Gr.refl _).alloc
   rintro e4 w1 ⟨rfl, hg1⟩
   have G1 := (Gr.refl w).alloc.trans hg1
   have B1 := (Cs.new w _ _ _ rfl).gr hg1
   clear hg1
   obtain ⟨c0, c1, c2, c3, c4, c5, c6, c7, clt⟩ := B1.c8
   go_wp2_with fail
   refine (HS.out _ G1.alloc).mono ?_
   rintro e5 w2 ⟨rfl, hg2⟩
   have G2 : Gr w w2 := G1.alloc.trans hg2
   have B2 := B1.alloc.gr hg2
   have W2 : Cs w2 w1.heap.size wordV := (Cs.new w1 wordV 9 _ rfl).gr hg2
   have hwd := W2.at_ j _ HJ.out
   clear hg2 B1 W2 clt c0 c1 c2 c3 c4 c5 c6 c7
   obtain ⟨c0, c1, c2, c3, c4, c5, c6, c7, clt⟩ := B2.c8
   go_wp2_with fail
   refine (HP.out _ G2).mono ?_
   rintro e6 w3 ⟨rfl, hg3⟩
   have G3 : Gr w w3 := G2.trans hg3
   have B3 := B2.gr hg3
   clear hg3 B2 hwd clt c0 c1 c2 c3 c4 c5 c6 c7
   obtain ⟨c0, c1, c2, c3, c4, c5, c6, c7, clt⟩ := B3.c8
   go_wp2
   go_ret2
   exact ⟨by rw [HR.out, HE.out]; rfl, G3⟩
 ·rw [if_neg hb] at HC HR HE
  clear h hb
  go_enter Tryz.func11, Tryz.ntmps11
  go_wp2_with fail
  refine (HC.out _ ?_).mono ?_
  ·exact (by repeat(first|exact Gr.r _|refine Gr.a ?_|refine Gr.d ?_|refine Gr.t ?_ (by assumption)))
  rintro e4 w1 ⟨rfl, hg1⟩
  go_wp2
  go_ret2
  exact ⟨by rw [HR.out, HE.out]; rfl, (by repeat(first|exact Gr.r _|refine Gr.a ?_|refine Gr.d ?_|refine Gr.t ?_ (by assumption)))⟩
end Go.Proofs.YthaadiclopoamaaGreatDoor
