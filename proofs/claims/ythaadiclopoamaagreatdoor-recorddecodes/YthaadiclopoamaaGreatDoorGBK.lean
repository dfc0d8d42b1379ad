/- Parts of these proofs, laid together. -/
import Derived.Test.YthaadiclopoamaaGreatDoorGBH
import Derived.Test.YthaadiclopoamaaGreatDoorGBJ
import Derived.Test.YthaadiclopoamaaGreatDoorGBF
import Derived.Test.YthaadiclopoamaaGreatDoorGBI
import Derived.Test.YthaadiclopoamaaGreatDoorGN
import Derived.Test.YthaadiclopoamaaGreatDoorGP
import Derived.Test.YthaadiclopoamaaGreatDoorGQ
import Derived.BigQuiet
import Derived.Deep.QuietTactic
import Derived.Deep.RegionHeld3
/- the document's record: Encode. -/
set_option maxRecDepth 100000
set_option maxHeartbeats 8000000
namespace Go.Proofs.YthaadiclopoamaaGreatDoor
open Go.RowKit
open Df (Stp)

theorem qnumber_any (z : Int) (w : World) (h0 : 0 <= z) (h1 : z <= 9223372036854775807) :
  Calls Tryz.prog 45 #[.int .i64 z] w fun e w' => e = .returned (.string ⟨(Rc.nm z).toArray⟩) /\ Gr w w' := by
 have HN : Hid (∀ w' : World, Calls Tryz.prog 66 #[.int .u64 z] w' fun e w2 => e = .returned (.string ⟨(Rc.nm z).toArray⟩) /\ Gr w' w2) := by
  intro w'
  have := refNumber_any 9 z.toNat w' (by omega) (by omega) (by omega)
  rw [show ((z.toNat : Nat) : Int) = z by omega] at this
  exact this
 have hwr : IntKind.u64.wrap z = z := w64 _ h0 (by omega)
 clear h0 h1
 go_enter Tryz.func45, Tryz.ntmps45
 go_wp2_with fail
 refine (HN.out _).mono ?_
 rintro e1 w1 ⟨rfl, hg1⟩
 go_wp2
 go_ret
 exact ⟨rfl, (by repeat(first|exact Gr.r _|refine Gr.a ?_|refine Gr.d ?_|refine Gr.t ?_ (by assumption)))⟩
theorem shE_dtq (d : ByteArray) (S : List Stp) : shE d S = ⟨(Rc.dt d S).toArray⟩ := by
 unfold shE Rc.dt; split <;> rfl

theorem qenc_any (k mk r n : Int) (L : List (Int × Int)) (s y : Int) (md : ByteArray) (T : List Stp) (a : ByteArray) (v : Int) (d : ByteArray) (S : List Stp) (t : ByteArray) (a1 : Option Addr) (e1 : Nat) (a2 : Option Addr) (e2 : Nat) (a3 : Option Addr) (e3 : Nat) (w : World) (h : RcIn w (⟨k, ⟨mk, r, n, L, s, y, md, T⟩, a, v, d, S, t⟩ : Rc) a1 e1 a2 e2 a3 e3) :
  Calls Tryz.prog 17 #[.agg #[.int .i64 k, .int .i64 mk, .int .i64 r, .int .i64 n, .slice a1 L.length e1, .int .i64 s, .int .i64 y, .string md, .slice a2 T.length e2, .string a, .int .i64 v, .string d, .slice a3 S.length e3, .string t]] w fun e w' => e = .returned (.tuple #[.string ⟨(Rc.encL (⟨k, ⟨mk, r, n, L, s, y, md, T⟩, a, v, d, S, t⟩ : Rc)).toArray⟩, .int .i64 (Rc.rcE (⟨k, ⟨mk, r, n, L, s, y, md, T⟩, a, v, d, S, t⟩ : Rc))]) /\ Gr w w' := by
 have HC : Hid (∀ w', Gr w w' -> Calls Tryz.prog 15 #[.agg #[.int .i64 k, .int .i64 mk, .int .i64 r, .int .i64 n, .slice a1 L.length e1, .int .i64 s, .int .i64 y, .string md, .slice a2 T.length e2, .string a, .int .i64 v, .string d, .slice a3 S.length e3, .string t]] w' fun e w2 => e = .returned (.int .i64 (if Rc.rcB (⟨k, ⟨mk, r, n, L, s, y, md, T⟩, a, v, d, S, t⟩ : Rc) = true then 0 else 140)) /\ Gr w' w2) := fun w' g => rchk_any k mk r n L s y md T a v d S t a1 e1 a2 e2 a3 e3 w' (h.gr g)
 have HR : Hid (Rc.encL (⟨k, ⟨mk, r, n, L, s, y, md, T⟩, a, v, d, S, t⟩ : Rc) = if Rc.rcB (⟨k, ⟨mk, r, n, L, s, y, md, T⟩, a, v, d, S, t⟩ : Rc) = true then Rc.bd (⟨k, ⟨mk, r, n, L, s, y, md, T⟩, a, v, d, S, t⟩ : Rc) else []) := rfl
 have HE : Hid (Rc.rcE (⟨k, ⟨mk, r, n, L, s, y, md, T⟩, a, v, d, S, t⟩ : Rc) = if Rc.rcB (⟨k, ⟨mk, r, n, L, s, y, md, T⟩, a, v, d, S, t⟩ : Rc) = true then 0 else 140) := rfl
 generalize Rc.encL (⟨k, ⟨mk, r, n, L, s, y, md, T⟩, a, v, d, S, t⟩ : Rc) = R at *
 generalize Rc.rcE (⟨k, ⟨mk, r, n, L, s, y, md, T⟩, a, v, d, S, t⟩ : Rc) = E at *
 by_cases hb : Rc.rcB (⟨k, ⟨mk, r, n, L, s, y, md, T⟩, a, v, d, S, t⟩ : Rc) = true
 ·rw [if_pos hb] at HC HR HE
  obtain ⟨hk, h1, h2, h3, h4, h5⟩ := Rc.may_rec hb
  simp only at hk h1 h2 h3 h4 h5
  have HN : Hid (∀ w' : World, Calls Tryz.prog 45 #[.int .i64 k] w' fun e w2 => e = .returned (.string ⟨(Rc.nm k).toArray⟩) /\ Gr w' w2) := fun w' => qnumber_any k w' (by omega) (by omega)
  have l0 := Rc.num_le k
  rcases (show k = 1 ∨ k = 2 ∨ k = 3 ∨ k = 4 ∨ k = 5 by omega) with rfl | rfl | rfl | rfl | rfl
  ·have HB : Hid (Rc.bd (⟨1, ⟨mk, r, n, L, s, y, md, T⟩, a, v, d, S, t⟩ : Rc) = Rc.nm 1 ++ Rc.nm mk ++ Pk.text (Idn.showT r n L) ++ Rc.nm s ++ Rc.nm y ++ Pk.text (Rc.dt md T)) := by show Rc.nm 1 ++ Rc.bdM (⟨mk, r, n, L, s, y, md, T⟩ : Mv) = _; unfold Rc.bdM; simp
   rw [if_pos rfl] at h1
   obtain ⟨hmk, hi, hdf, hy, hs⟩ := Rc.may_move h1
   simp only at hmk hi hdf hy hs
   have hsl := Rc.id_len hi
   have hdl := Rc.dt_le md T
   have HS : Hid (∀ w', Gr w w' -> Calls Tryz.prog 24 #[.agg #[.int .i64 r, .int .i64 n, .slice a1 L.length e1]] w' fun e w2 => e = .returned (.tuple #[.string ⟨(Idn.showT r n L).toArray⟩, .int .i64 0]) /\ Gr w' w2) := by
    intro w' g
    refine (refShow_any r n L a1 e1 w' (h.mv.hops.gr g) h.mv.nL).mono ?_
    rintro e w2 ⟨⟨_, q⟩ | ⟨q, _⟩, hg⟩
    ·exact ⟨q, hg⟩
    ·rw [hi] at q; cases q
   have HD : Hid (∀ w', Gr w w' -> Calls Tryz.prog 46 #[.agg #[.string md, .slice a2 T.length e2]] w' fun e w2 => e = .returned (.tuple #[.string ⟨(Rc.dt md T).toArray⟩, .int .i64 (Df.chE md T)]) /\ Gr w' w2) := by
    intro w' g
    have := refDShow_any md T a2 e2 w' (h.mv.stps.gr g) h.mv.nd h.mv.nS h.mv.inS
    rw [shE_dtq] at this
    exact this
   have HK : Hid (∀ w' : World, Calls Tryz.prog 45 #[.int .i64 mk] w' fun e w2 => e = .returned (.string ⟨(Rc.nm mk).toArray⟩) /\ Gr w' w2) := fun w' => qnumber_any mk w' (by omega) (by omega)
   have HP : Hid (∀ w' : World, Calls Tryz.prog 45 #[.int .i64 s] w' fun e w2 => e = .returned (.string ⟨(Rc.nm s).toArray⟩) /\ Gr w' w2) := fun w' => qnumber_any s w' (by omega) (by omega)
   have HY : Hid (∀ w' : World, Calls Tryz.prog 45 #[.int .i64 y] w' fun e w2 => e = .returned (.string ⟨(Rc.nm y).toArray⟩) /\ Gr w' w2) := fun w' => qnumber_any y w' (by omega) (by omega)
   have HT : Hid (∀ w' : World, Calls Tryz.prog 47 #[.string ⟨(Idn.showT r n L).toArray⟩] w' fun e w2 => e = .returned (.string ⟨(Pk.text (Idn.showT r n L)).toArray⟩) /\ Gr w' w2) := fun w' => refText_any ⟨(Idn.showT r n L).toArray⟩ w' (by simp [ByteArray.size]; omega)
   have HU : Hid (∀ w' : World, Calls Tryz.prog 47 #[.string ⟨(Rc.dt md T).toArray⟩] w' fun e w2 => e = .returned (.string ⟨(Pk.text (Rc.dt md T)).toArray⟩) /\ Gr w' w2) := fun w' => refText_any ⟨(Rc.dt md T).toArray⟩ w' (by simp [ByteArray.size]; omega)
   have l1 := Rc.num_le mk
   have l2 := Rc.text_le (Idn.showT r n L)
   have l3 := Rc.num_le s
   have l4 := Rc.num_le y
   have l5 := Rc.text_le (Rc.dt md T)
   generalize Rc.bd (⟨1, ⟨mk, r, n, L, s, y, md, T⟩, a, v, d, S, t⟩ : Rc) = BD at *
   generalize Rc.nm 1 = t0 at *
   generalize Rc.nm mk = t1 at *
   generalize Pk.text (Idn.showT r n L) = t2 at *
   generalize Rc.nm s = t3 at *
   generalize Rc.nm y = t4 at *
   generalize Pk.text (Rc.dt md T) = t5 at *
   have q1 := add_lists t0 t1 (by omega)
   have q2 := add_lists (t0 ++ t1) t2 (by simp; omega)
   have q3 := add_lists (t0 ++ t1 ++ t2) t3 (by simp; omega)
   have q4 := add_lists (t0 ++ t1 ++ t2 ++ t3) t4 (by simp; omega)
   have q5 := add_lists (t0 ++ t1 ++ t2 ++ t3 ++ t4) t5 (by simp; omega)
   generalize t0 ++ t1 ++ t2 ++ t3 ++ t4 ++ t5 = u5 at *
   generalize t0 ++ t1 ++ t2 ++ t3 ++ t4 = u4 at *
   generalize t0 ++ t1 ++ t2 ++ t3 = u3 at *
   generalize t0 ++ t1 ++ t2 = u2 at *
   generalize t0 ++ t1 = u1 at *
   generalize Idn.showT r n L = st at *
   generalize Rc.dt md T = sd at *
   generalize Df.chE md T = ce at *
   clear hmk hi hdf hy hs hsl hdl l1 l2 l3 l4 l5
   clear h hb hk h1 h2 h3 h4 h5 l0
   go_enter Tryz.func17, Tryz.ntmps17
   go_wp2_with fail
   refine (HC.out _ ?_).mono ?_
   ·exact (Gr.refl _).alloc
   rintro e4 w1 ⟨rfl, hg1⟩
   have G1 := (Gr.refl w).alloc.trans hg1
   have B1 := (Cs.new w _ _ _ rfl).gr hg1
   obtain ⟨c0, c1, c2, c3, c4, c5, c6, c7, c8, c9, c10, c11, c12, c13, clt⟩ := B1.c14
   clear hg1
   go_wp2_with fail
   refine (HN.out _).mono ?_
   rintro e5 w2 ⟨rfl, hg2⟩
   have G2 : Gr w w2 := G1.trans hg2
   have B2 := B1.gr hg2
   clear hg2 B1 clt c0 c1 c2 c3 c4 c5 c6 c7 c8 c9 c10 c11 c12 c13
   obtain ⟨c0, c1, c2, c3, c4, c5, c6, c7, c8, c9, c10, c11, c12, c13, clt⟩ := B2.c14
   go_wp2_with fail
   refine (HS.out _ G2).mono ?_
   rintro e6 w3 ⟨rfl, hg3⟩
   have G3 : Gr w w3 := G2.trans hg3
   have B3 := B2.gr hg3
   clear hg3 B2 clt c0 c1 c2 c3 c4 c5 c6 c7 c8 c9 c10 c11 c12 c13
   obtain ⟨c0, c1, c2, c3, c4, c5, c6, c7, c8, c9, c10, c11, c12, c13, clt⟩ := B3.c14
   go_wp2_with fail
   refine (HD.out _ G3).mono ?_
   rintro e7 w4 ⟨rfl, hg4⟩
   have G4 : Gr w w4 := G3.trans hg4
   have B4 := B3.gr hg4
   clear hg4 B3 clt c0 c1 c2 c3 c4 c5 c6 c7 c8 c9 c10 c11 c12 c13
   obtain ⟨c0, c1, c2, c3, c4, c5, c6, c7, c8, c9, c10, c11, c12, c13, clt⟩ := B4.c14
   go_wp2
   go_region_held3 (fun w' => Gr w4 w' /\ w'.cell? ⟨w.heap.size, 0, none⟩ = some (.int .i64 1) /\ w'.cell? ⟨w.heap.size, 1, none⟩ = some (.int .i64 mk) /\ w'.cell? ⟨w.heap.size, 2, none⟩ = some (.int .i64 r) /\ w'.cell? ⟨w.heap.size, 3, none⟩ = some (.int .i64 n) /\ w'.cell? ⟨w.heap.size, 4, none⟩ = some (.slice a1 L.length e1) /\ w'.cell? ⟨w.heap.size, 5, none⟩ = some (.int .i64 s) /\ w'.cell? ⟨w.heap.size, 6, none⟩ = some (.int .i64 y) /\ w'.cell? ⟨w.heap.size, 7, none⟩ = some (.string md) /\ w'.cell? ⟨w.heap.size, 8, none⟩ = some (.slice a2 T.length e2) /\ w'.cell? ⟨w.heap.size, 9, none⟩ = some (.string a) /\ w'.cell? ⟨w.heap.size, 10, none⟩ = some (.int .i64 v) /\ w'.cell? ⟨w.heap.size, 11, none⟩ = some (.string d) /\ w'.cell? ⟨w.heap.size, 12, none⟩ = some (.slice a3 S.length e3) /\ w'.cell? ⟨w.heap.size, 13, none⟩ = some (.string t))
    ((go_split_ands; exact ⟨(by repeat(first|exact Gr.r _|refine Gr.a ?_|refine Gr.d ?_|refine Gr.t ?_ (by assumption))), Gr.keep (W := w4) (by repeat(first|exact Gr.r _|refine Gr.a ?_|refine Gr.d ?_|refine Gr.t ?_ (by assumption))) c0, Gr.keep (W := w4) (by repeat(first|exact Gr.r _|refine Gr.a ?_|refine Gr.d ?_|refine Gr.t ?_ (by assumption))) c1, Gr.keep (W := w4) (by repeat(first|exact Gr.r _|refine Gr.a ?_|refine Gr.d ?_|refine Gr.t ?_ (by assumption))) c2, Gr.keep (W := w4) (by repeat(first|exact Gr.r _|refine Gr.a ?_|refine Gr.d ?_|refine Gr.t ?_ (by assumption))) c3, Gr.keep (W := w4) (by repeat(first|exact Gr.r _|refine Gr.a ?_|refine Gr.d ?_|refine Gr.t ?_ (by assumption))) c4, Gr.keep (W := w4) (by repeat(first|exact Gr.r _|refine Gr.a ?_|refine Gr.d ?_|refine Gr.t ?_ (by assumption))) c5, Gr.keep (W := w4) (by repeat(first|exact Gr.r _|refine Gr.a ?_|refine Gr.d ?_|refine Gr.t ?_ (by assumption))) c6, Gr.keep (W := w4) (by repeat(first|exact Gr.r _|refine Gr.a ?_|refine Gr.d ?_|refine Gr.t ?_ (by assumption))) c7, Gr.keep (W := w4) (by repeat(first|exact Gr.r _|refine Gr.a ?_|refine Gr.d ?_|refine Gr.t ?_ (by assumption))) c8, Gr.keep (W := w4) (by repeat(first|exact Gr.r _|refine Gr.a ?_|refine Gr.d ?_|refine Gr.t ?_ (by assumption))) c9, Gr.keep (W := w4) (by repeat(first|exact Gr.r _|refine Gr.a ?_|refine Gr.d ?_|refine Gr.t ?_ (by assumption))) c10, Gr.keep (W := w4) (by repeat(first|exact Gr.r _|refine Gr.a ?_|refine Gr.d ?_|refine Gr.t ?_ (by assumption))) c11, Gr.keep (W := w4) (by repeat(first|exact Gr.r _|refine Gr.a ?_|refine Gr.d ?_|refine Gr.t ?_ (by assumption))) c12, Gr.keep (W := w4) (by repeat(first|exact Gr.r _|refine Gr.a ?_|refine Gr.d ?_|refine Gr.t ?_ (by assumption))) c13⟩))
    ((first
    | (go_at_call_of 45 (Value.int .i64 mk); refine (HK.out _).mono ?_; rintro e v1 ⟨rfl, hv1⟩; go_split_ands)
    | (go_at_call_of 45 (Value.int .i64 s); refine (HP.out _).mono ?_; rintro e v2 ⟨rfl, hv2⟩; go_split_ands)
    | (go_at_call_of 45 (Value.int .i64 y); refine (HY.out _).mono ?_; rintro e v3 ⟨rfl, hv3⟩; go_split_ands)
    | (go_at_call_of 47 (Value.string ⟨st.toArray⟩); refine (HT.out _).mono ?_; rintro e v4 ⟨rfl, hv4⟩; go_split_ands)
    | (go_at_call_of 47 (Value.string ⟨sd.toArray⟩); refine (HU.out _).mono ?_; rintro e v5 ⟨rfl, hv5⟩; go_split_ands)))
   all_goals go_wp2
   all_goals go_ret2
   all_goals exact ⟨by rw [HR.out, HE.out, HB.out]; rfl, G4.trans (by repeat(first|exact Gr.r _|refine Gr.a ?_|refine Gr.d ?_|refine Gr.t ?_ (by assumption)))⟩
  ·have HB : Hid (Rc.bd (⟨2, ⟨mk, r, n, L, s, y, md, T⟩, a, v, d, S, t⟩ : Rc) = Rc.nm 2 ++ Pk.text a.data.toList ++ Pk.num (Pk.sgn v)) := by show Rc.nm 2 ++ (Pk.text a.data.toList ++ Pk.num (Pk.sgn v)) = _; simp
   rw [if_pos rfl] at h2 h3
   have hfi : 0 <= v /\ v <= 1000000000000000 := by unfold Rc.fiB at h3; simpa using h3
   have hna := (Act.name_pos h2).2
   have hsz : a.data.toList.length = a.size := by simp
   have HT : Hid (∀ w' : World, Calls Tryz.prog 47 #[.string a] w' fun e w2 => e = .returned (.string ⟨(Pk.text a.data.toList).toArray⟩) /\ Gr w' w2) := fun w' => refText_any a w' (by omega)
   have HG : Hid (∀ w' : World, Calls Tryz.prog 48 #[.int .i64 v] w' fun e w2 => e = .returned (.string ⟨(Pk.num (Pk.sgn v)).toArray⟩) /\ Gr w' w2) := fun w' => refSigned_any v w' (by omega) (by omega)
   have l1 := Rc.text_le a.data.toList
   have l2 := (Pk.num_len (Pk.sgn v)).2
   generalize Rc.bd (⟨2, ⟨mk, r, n, L, s, y, md, T⟩, a, v, d, S, t⟩ : Rc) = BD at *
   generalize Pk.text a.data.toList = tt at *
   generalize Pk.num (Pk.sgn v) = tg at *
   generalize Rc.nm 2 = t1 at *
   have q1 := add_lists t1 tt (by omega)
   have q2 := add_lists (t1 ++ tt) tg (by simp; omega)
   generalize t1 ++ tt ++ tg = u2 at *
   generalize t1 ++ tt = u1 at *
   clear hfi hna hsz l1 l2
   clear h hb hk h1 h2 h3 h4 h5 l0
   go_enter Tryz.func17, Tryz.ntmps17
   go_wp2_with fail
   refine (HC.out _ ?_).mono ?_
   ·exact (Gr.refl _).alloc
   rintro e4 w1 ⟨rfl, hg1⟩
   have G1 := (Gr.refl w).alloc.trans hg1
   have B1 := (Cs.new w _ _ _ rfl).gr hg1
   obtain ⟨c0, c1, c2, c3, c4, c5, c6, c7, c8, c9, c10, c11, c12, c13, clt⟩ := B1.c14
   clear hg1
   go_wp2_with fail
   refine (HN.out _).mono ?_
   rintro e5 w2 ⟨rfl, hg2⟩
   have G2 : Gr w w2 := G1.trans hg2
   have B2 := B1.gr hg2
   clear hg2 B1 clt c0 c1 c2 c3 c4 c5 c6 c7 c8 c9 c10 c11 c12 c13
   obtain ⟨c0, c1, c2, c3, c4, c5, c6, c7, c8, c9, c10, c11, c12, c13, clt⟩ := B2.c14
   go_wp2
   go_region_held3 (fun w' => Gr w2 w' /\ w'.cell? ⟨w.heap.size, 0, none⟩ = some (.int .i64 2) /\ w'.cell? ⟨w.heap.size, 1, none⟩ = some (.int .i64 mk) /\ w'.cell? ⟨w.heap.size, 2, none⟩ = some (.int .i64 r) /\ w'.cell? ⟨w.heap.size, 3, none⟩ = some (.int .i64 n) /\ w'.cell? ⟨w.heap.size, 4, none⟩ = some (.slice a1 L.length e1) /\ w'.cell? ⟨w.heap.size, 5, none⟩ = some (.int .i64 s) /\ w'.cell? ⟨w.heap.size, 6, none⟩ = some (.int .i64 y) /\ w'.cell? ⟨w.heap.size, 7, none⟩ = some (.string md) /\ w'.cell? ⟨w.heap.size, 8, none⟩ = some (.slice a2 T.length e2) /\ w'.cell? ⟨w.heap.size, 9, none⟩ = some (.string a) /\ w'.cell? ⟨w.heap.size, 10, none⟩ = some (.int .i64 v) /\ w'.cell? ⟨w.heap.size, 11, none⟩ = some (.string d) /\ w'.cell? ⟨w.heap.size, 12, none⟩ = some (.slice a3 S.length e3) /\ w'.cell? ⟨w.heap.size, 13, none⟩ = some (.string t))
    ((go_split_ands; exact ⟨(by repeat(first|exact Gr.r _|refine Gr.a ?_|refine Gr.d ?_|refine Gr.t ?_ (by assumption))), Gr.keep (W := w2) (by repeat(first|exact Gr.r _|refine Gr.a ?_|refine Gr.d ?_|refine Gr.t ?_ (by assumption))) c0, Gr.keep (W := w2) (by repeat(first|exact Gr.r _|refine Gr.a ?_|refine Gr.d ?_|refine Gr.t ?_ (by assumption))) c1, Gr.keep (W := w2) (by repeat(first|exact Gr.r _|refine Gr.a ?_|refine Gr.d ?_|refine Gr.t ?_ (by assumption))) c2, Gr.keep (W := w2) (by repeat(first|exact Gr.r _|refine Gr.a ?_|refine Gr.d ?_|refine Gr.t ?_ (by assumption))) c3, Gr.keep (W := w2) (by repeat(first|exact Gr.r _|refine Gr.a ?_|refine Gr.d ?_|refine Gr.t ?_ (by assumption))) c4, Gr.keep (W := w2) (by repeat(first|exact Gr.r _|refine Gr.a ?_|refine Gr.d ?_|refine Gr.t ?_ (by assumption))) c5, Gr.keep (W := w2) (by repeat(first|exact Gr.r _|refine Gr.a ?_|refine Gr.d ?_|refine Gr.t ?_ (by assumption))) c6, Gr.keep (W := w2) (by repeat(first|exact Gr.r _|refine Gr.a ?_|refine Gr.d ?_|refine Gr.t ?_ (by assumption))) c7, Gr.keep (W := w2) (by repeat(first|exact Gr.r _|refine Gr.a ?_|refine Gr.d ?_|refine Gr.t ?_ (by assumption))) c8, Gr.keep (W := w2) (by repeat(first|exact Gr.r _|refine Gr.a ?_|refine Gr.d ?_|refine Gr.t ?_ (by assumption))) c9, Gr.keep (W := w2) (by repeat(first|exact Gr.r _|refine Gr.a ?_|refine Gr.d ?_|refine Gr.t ?_ (by assumption))) c10, Gr.keep (W := w2) (by repeat(first|exact Gr.r _|refine Gr.a ?_|refine Gr.d ?_|refine Gr.t ?_ (by assumption))) c11, Gr.keep (W := w2) (by repeat(first|exact Gr.r _|refine Gr.a ?_|refine Gr.d ?_|refine Gr.t ?_ (by assumption))) c12, Gr.keep (W := w2) (by repeat(first|exact Gr.r _|refine Gr.a ?_|refine Gr.d ?_|refine Gr.t ?_ (by assumption))) c13⟩))
    ((first
    | (go_at_call 47; refine (HT.out _).mono ?_; rintro e v1 ⟨rfl, hv1⟩; go_split_ands)
    | (go_at_call 48; refine (HG.out _).mono ?_; rintro e v2 ⟨rfl, hv2⟩; go_split_ands)))
   all_goals go_wp2
   all_goals go_ret2
   all_goals exact ⟨by rw [HR.out, HE.out, HB.out]; rfl, G2.trans (by repeat(first|exact Gr.r _|refine Gr.a ?_|refine Gr.d ?_|refine Gr.t ?_ (by assumption)))⟩
  ·have HB : Hid (Rc.bd (⟨3, ⟨mk, r, n, L, s, y, md, T⟩, a, v, d, S, t⟩ : Rc) = Rc.nm 3 ++ Pk.text (Rc.dt d S)) := rfl
   have l1 := Rc.text_le (Rc.dt d S)
   have l2 := Rc.dt_le d S
   have HD : Hid (∀ w', Gr w w' -> Calls Tryz.prog 46 #[.agg #[.string d, .slice a3 S.length e3]] w' fun e w2 => e = .returned (.tuple #[.string ⟨(Rc.dt d S).toArray⟩, .int .i64 (Df.chE d S)]) /\ Gr w' w2) := by
    intro w' g
    have := refDShow_any d S a3 e3 w' (h.stps.gr g) h.nd h.nS h.inS
    rw [shE_dtq] at this
    exact this
   have HU : Hid (∀ w', Gr w w' -> Calls Tryz.prog 47 #[.string ⟨(Rc.dt d S).toArray⟩] w' fun e w2 => e = .returned (.string ⟨(Pk.text (Rc.dt d S)).toArray⟩) /\ Gr w' w2) := fun w' _ => refText_any ⟨(Rc.dt d S).toArray⟩ w' (by simp [ByteArray.size]; omega)
   generalize Rc.bd (⟨3, ⟨mk, r, n, L, s, y, md, T⟩, a, v, d, S, t⟩ : Rc) = BD at *
   generalize Pk.text (Rc.dt d S) = tm at *
   generalize Rc.dt d S = sd at *
   generalize Df.chE d S = ce at *
   generalize Rc.nm 3 = t1 at *
   have q1 := add_lists t1 tm (by omega)
   generalize t1 ++ tm = u1 at *
   clear l1 l2
   clear h hb hk h1 h2 h3 h4 h5 l0
   go_enter Tryz.func17, Tryz.ntmps17
   go_wp2_with fail
   refine (HC.out _ ?_).mono ?_
   ·exact (Gr.refl _).alloc
   rintro e4 w1 ⟨rfl, hg1⟩
   have G1 := (Gr.refl w).alloc.trans hg1
   have B1 := (Cs.new w _ _ _ rfl).gr hg1
   obtain ⟨c0, c1, c2, c3, c4, c5, c6, c7, c8, c9, c10, c11, c12, c13, clt⟩ := B1.c14
   clear hg1
   go_wp2_with fail
   refine (HN.out _).mono ?_
   rintro e5 w2 ⟨rfl, hg2⟩
   have G2 : Gr w w2 := G1.trans hg2
   have B2 := B1.gr hg2
   clear hg2 B1 clt c0 c1 c2 c3 c4 c5 c6 c7 c8 c9 c10 c11 c12 c13
   obtain ⟨c0, c1, c2, c3, c4, c5, c6, c7, c8, c9, c10, c11, c12, c13, clt⟩ := B2.c14
   go_wp2_with fail
   refine (HD.out _ G2).mono ?_
   rintro e6 w3 ⟨rfl, hg3⟩
   have G3 : Gr w w3 := G2.trans hg3
   have B3 := B2.gr hg3
   clear hg3 B2 clt c0 c1 c2 c3 c4 c5 c6 c7 c8 c9 c10 c11 c12 c13
   obtain ⟨c0, c1, c2, c3, c4, c5, c6, c7, c8, c9, c10, c11, c12, c13, clt⟩ := B3.c14
   go_wp2_with fail
   refine (HU.out _ G3).mono ?_
   rintro e7 w4 ⟨rfl, hg4⟩
   have G4 : Gr w w4 := G3.trans hg4
   have B4 := B3.gr hg4
   clear hg4 B3 clt c0 c1 c2 c3 c4 c5 c6 c7 c8 c9 c10 c11 c12 c13
   obtain ⟨c0, c1, c2, c3, c4, c5, c6, c7, c8, c9, c10, c11, c12, c13, clt⟩ := B4.c14
   go_wp2
   go_ret2
   exact ⟨by rw [HR.out, HE.out, HB.out]; rfl, G4⟩
  ·have HB : Hid (Rc.bd (⟨4, ⟨mk, r, n, L, s, y, md, T⟩, a, v, d, S, t⟩ : Rc) = Rc.nm 4 ++ []) := rfl
   rw [List.append_nil] at HB
   generalize Rc.bd (⟨4, ⟨mk, r, n, L, s, y, md, T⟩, a, v, d, S, t⟩ : Rc) = BD at *
   generalize Rc.nm 4 = t1 at *
   clear h hb hk h1 h2 h3 h4 h5 l0
   go_enter Tryz.func17, Tryz.ntmps17
   go_wp2_with fail
   refine (HC.out _ ?_).mono ?_
   ·exact (Gr.refl _).alloc
   rintro e4 w1 ⟨rfl, hg1⟩
   have G1 := (Gr.refl w).alloc.trans hg1
   have B1 := (Cs.new w _ _ _ rfl).gr hg1
   obtain ⟨c0, c1, c2, c3, c4, c5, c6, c7, c8, c9, c10, c11, c12, c13, clt⟩ := B1.c14
   clear hg1
   go_wp2_with fail
   refine (HN.out _).mono ?_
   rintro e5 w2 ⟨rfl, hg2⟩
   have G2 : Gr w w2 := G1.trans hg2
   have B2 := B1.gr hg2
   clear hg2 B1 clt c0 c1 c2 c3 c4 c5 c6 c7 c8 c9 c10 c11 c12 c13
   obtain ⟨c0, c1, c2, c3, c4, c5, c6, c7, c8, c9, c10, c11, c12, c13, clt⟩ := B2.c14
   go_wp2
   go_ret2
   exact ⟨by rw [HR.out, HE.out, HB.out]; rfl, G2⟩
  ·have HB : Hid (Rc.bd (⟨5, ⟨mk, r, n, L, s, y, md, T⟩, a, v, d, S, t⟩ : Rc) = Rc.nm 5 ++ Pk.text t.data.toList) := rfl
   rw [if_pos rfl] at h5
   have ht := of_decide_eq_true h5
   have l1 := Rc.text_le t.data.toList
   have hsz : t.data.toList.length = t.size := by simp
   have HT : Hid (∀ w', Gr w w' -> Calls Tryz.prog 47 #[.string t] w' fun e w2 => e = .returned (.string ⟨(Pk.text t.data.toList).toArray⟩) /\ Gr w' w2) := fun w' _ => refText_any t w' (by omega)
   generalize Rc.bd (⟨5, ⟨mk, r, n, L, s, y, md, T⟩, a, v, d, S, t⟩ : Rc) = BD at *
   generalize Pk.text t.data.toList = tm at *
   generalize Rc.nm 5 = t1 at *
   have q1 := add_lists t1 tm (by omega)
   generalize t1 ++ tm = u1 at *
   clear ht l1 hsz
   clear h hb hk h1 h2 h3 h4 h5 l0
   go_enter Tryz.func17, Tryz.ntmps17
   go_wp2_with fail
   refine (HC.out _ ?_).mono ?_
   ·exact (Gr.refl _).alloc
   rintro e4 w1 ⟨rfl, hg1⟩
   have G1 := (Gr.refl w).alloc.trans hg1
   have B1 := (Cs.new w _ _ _ rfl).gr hg1
   obtain ⟨c0, c1, c2, c3, c4, c5, c6, c7, c8, c9, c10, c11, c12, c13, clt⟩ := B1.c14
   clear hg1
   go_wp2_with fail
   refine (HN.out _).mono ?_
   rintro e5 w2 ⟨rfl, hg2⟩
   have G2 : Gr w w2 := G1.trans hg2
   have B2 := B1.gr hg2
   clear hg2 B1 clt c0 c1 c2 c3 c4 c5 c6 c7 c8 c9 c10 c11 c12 c13
   obtain ⟨c0, c1, c2, c3, c4, c5, c6, c7, c8, c9, c10, c11, c12, c13, clt⟩ := B2.c14
   go_wp2_with fail
   refine (HT.out _ G2).mono ?_
   rintro e6 w3 ⟨rfl, hg3⟩
   have G3 : Gr w w3 := G2.trans hg3
   have B3 := B2.gr hg3
   clear hg3 B2 clt c0 c1 c2 c3 c4 c5 c6 c7 c8 c9 c10 c11 c12 c13
   obtain ⟨c0, c1, c2, c3, c4, c5, c6, c7, c8, c9, c10, c11, c12, c13, clt⟩ := B3.c14
   go_wp2
   go_ret2
   exact ⟨by rw [HR.out, HE.out, HB.out]; rfl, G3⟩
 ·rw [if_neg hb] at HC HR HE
  clear h hb
  go_enter Tryz.func17, Tryz.ntmps17
  go_wp2_with fail
  refine (HC.out _ ?_).mono ?_
  ·exact (by repeat(first|exact Gr.r _|refine Gr.a ?_|refine Gr.d ?_|refine Gr.t ?_ (by assumption)))
  rintro e4 w1 ⟨rfl, hg1⟩
  go_wp2
  go_ret2
  exact ⟨by rw [HR.out, HE.out]; rfl, (by repeat(first|exact Gr.r _|refine Gr.a ?_|refine Gr.d ?_|refine Gr.t ?_ (by assumption)))⟩
end Go.Proofs.YthaadiclopoamaaGreatDoor
