/- Parts of these proofs, laid together. -/
import Derived.Test.YthaadiclopoamaaGreatDoorGU
import Derived.Test.YthaadiclopoamaaGreatDoorGQ
import Derived.Test.YthaadiclopoamaaGreatDoorGG
import Derived.Test.YthaadiclopoamaaGreatDoorGD
/- record: Check. -/
set_option maxRecDepth 100000
set_option maxHeartbeats 8000000
namespace Go.Proofs.YthaadiclopoamaaGreatDoor
open Go.RowKit
open Df (Stp)

/- what is told of a record's rest -/
def WoR (x : Rc) (w : World) (e : Ending) (w' : World) : Prop :=
 ∃ a1 c1 a2 c2 a3 c3, e = .returned (.tuple #[.agg (rcC (Rc.wo x) a1 c1 a2 c2 a3 c3).toArray, .bool (Rc.woB x)]) /\ Gr w w'

theorem without1 (mk r n : Int) (L : List (Int × Int)) (s y : Int) (md : ByteArray) (T : List Stp) (a : ByteArray) (v : Int) (d : ByteArray) (S : List Stp) (t : ByteArray) (a1 : Option Addr) (e1 : Nat) (a2 : Option Addr) (e2 : Nat) (a3 : Option Addr) (e3 : Nat) (w : World) (h : MvIn w (⟨mk, r, n, L, s, y, md, T⟩ : Mv) a1 e1 a2 e2) (hF : Forms w) :
  Calls Tryz.prog 32 #[.agg #[.int .i64 1, .int .i64 mk, .int .i64 r, .int .i64 n, .slice a1 L.length e1, .int .i64 s, .int .i64 y, .string md, .slice a2 T.length e2, .string a, .int .i64 v, .string d, .slice a3 S.length e3, .string t]] w fun e w' => e = .returned (.tuple #[.agg #[.int .i64 1, .int .i64 0, .int .i64 0, .int .i64 0, .slice none 0 0, .int .i64 0, .int .i64 0, .string ⟨#[]⟩, .slice none 0 0, .string a, .int .i64 v, .string d, .slice a3 S.length e3, .string t], .bool (Rc.mvB (⟨mk, r, n, L, s, y, md, T⟩ : Mv))]) /\ Gr w w' := by
 have H1 : Hid (∀ w', Gr w w' -> Calls Tryz.prog 12 #[.agg #[.int .i64 mk, .int .i64 r, .int .i64 n, .slice a1 L.length e1, .int .i64 s, .int .i64 y, .string md, .slice a2 T.length e2]] w' fun e w2 => e = .returned (.int .i64 (if Rc.mvB (⟨mk, r, n, L, s, y, md, T⟩ : Mv) = true then 0 else 140)) /\ Gr w' w2) := fun w' g => move_any mk r n L s y md T a1 e1 a2 e2 w' (h.gr g) (hF.gr g)
 generalize Rc.mvB (⟨mk, r, n, L, s, y, md, T⟩ : Mv) = b at *
 clear h hF
 cases b with
 | false =>
  rw [if_neg (by decide)] at H1
  go_enter Tryz.func32, Tryz.ntmps32
  go_wp2_with fail
  refine (H1.out _ ?_).mono ?_
  ·exact (by repeat(first|exact Gr.r _|refine Gr.a ?_|refine Gr.d ?_|refine Gr.t ?_ (by assumption)))
  rintro e4 w1 ⟨rfl, hg1⟩
  have G1 : Gr w w1 := (by repeat(first|exact Gr.r _|refine Gr.a ?_|refine Gr.d ?_|refine Gr.t ?_ (by assumption)))
  have BC1 := (Cs.new w _ _ _ rfl).alloc.gr hg1
  have BZ1 : Cs w1 (w.heap.size + 1) _ := (Cs.new _ _ _ _ (by simp)).gr hg1
  obtain ⟨c0, c1, c2, c3, c4, c5, c6, c7, c8, c9, c10, c11, c12, c13, cf0, cf1, cf2, cf3, cf4, cf5, cf6, cf7, cf8, cf9, cf10, cf11, cf12, cf13, clt⟩ := BC1.d14
  obtain ⟨z0, z1, z2, z3, z4, z5, z6, z7, z8, z9, z10, z11, z12, z13, zf0, zf1, zf2, zf3, zf4, zf5, zf6, zf7, zf8, zf9, zf10, zf11, zf12, zf13, zlt⟩ := BZ1.d14
  clear hg1
  go_wp2
  exact bodyPost_ret (v := .tuple #[.agg #[.int .i64 1, .int .i64 0, .int .i64 0, .int .i64 0, .slice none 0 0, .int .i64 0, .int .i64 0, .string ⟨#[]⟩, .slice none 0 0, .string a, .int .i64 v, .string d, .slice a3 S.length e3, .string t], .bool false]) (by simp [results, Tryz.results32, go_sem, *]) rfl ⟨rfl, (by (with_reducible repeat' (first | exact Gr.refl _ | refine Gr.set ?_ _ ?_ _ | refine Gr.alloc ?_ | refine Gr.drew ?_ | refine Gr.trans ?_ (by assumption))) <;> (first | (simp; done) | (simp; omega) | omega))⟩
 | true =>
  rw [if_pos rfl] at H1
  go_enter Tryz.func32, Tryz.ntmps32
  go_wp2_with fail
  refine (H1.out _ ?_).mono ?_
  ·exact (by repeat(first|exact Gr.r _|refine Gr.a ?_|refine Gr.d ?_|refine Gr.t ?_ (by assumption)))
  rintro e4 w1 ⟨rfl, hg1⟩
  have G1 : Gr w w1 := (by repeat(first|exact Gr.r _|refine Gr.a ?_|refine Gr.d ?_|refine Gr.t ?_ (by assumption)))
  have BC1 := (Cs.new w _ _ _ rfl).alloc.gr hg1
  have BZ1 : Cs w1 (w.heap.size + 1) _ := (Cs.new _ _ _ _ (by simp)).gr hg1
  obtain ⟨c0, c1, c2, c3, c4, c5, c6, c7, c8, c9, c10, c11, c12, c13, cf0, cf1, cf2, cf3, cf4, cf5, cf6, cf7, cf8, cf9, cf10, cf11, cf12, cf13, clt⟩ := BC1.d14
  obtain ⟨z0, z1, z2, z3, z4, z5, z6, z7, z8, z9, z10, z11, z12, z13, zf0, zf1, zf2, zf3, zf4, zf5, zf6, zf7, zf8, zf9, zf10, zf11, zf12, zf13, zlt⟩ := BZ1.d14
  clear hg1
  go_wp2
  exact bodyPost_ret (v := .tuple #[.agg #[.int .i64 1, .int .i64 0, .int .i64 0, .int .i64 0, .slice none 0 0, .int .i64 0, .int .i64 0, .string ⟨#[]⟩, .slice none 0 0, .string a, .int .i64 v, .string d, .slice a3 S.length e3, .string t], .bool true]) (by simp [results, Tryz.results32, go_sem, *]) rfl ⟨rfl, (by (with_reducible repeat' (first | exact Gr.refl _ | refine Gr.set ?_ _ ?_ _ | refine Gr.alloc ?_ | refine Gr.drew ?_ | refine Gr.trans ?_ (by assumption))) <;> (first | (simp; done) | (simp; omega) | omega))⟩

theorem without2 (mk r n : Int) (L : List (Int × Int)) (s y : Int) (md : ByteArray) (T : List Stp) (a : ByteArray) (v : Int) (d : ByteArray) (S : List Stp) (t : ByteArray) (a1 : Option Addr) (e1 : Nat) (a2 : Option Addr) (e2 : Nat) (a3 : Option Addr) (e3 : Nat) (w : World) (hs : a.size <= 9223372036854775807) :
  Calls Tryz.prog 32 #[.agg #[.int .i64 2, .int .i64 mk, .int .i64 r, .int .i64 n, .slice a1 L.length e1, .int .i64 s, .int .i64 y, .string md, .slice a2 T.length e2, .string a, .int .i64 v, .string d, .slice a3 S.length e3, .string t]] w fun e w' => e = .returned (.tuple #[.agg #[.int .i64 2, .int .i64 mk, .int .i64 r, .int .i64 n, .slice a1 L.length e1, .int .i64 s, .int .i64 y, .string md, .slice a2 T.length e2, .string ⟨#[]⟩, .int .i64 0, .string d, .slice a3 S.length e3, .string t], .bool (Act.nameB a && Rc.fiB v)]) /\ Gr w w' := by
 have H1 : Hid (∀ w', Gr w w' -> Calls Tryz.prog 60 #[.string a] w' fun e w2 => e = .returned (.bool (Act.nameB a)) /\ Gr w' w2) := fun w' _ => (name_any a w' hs).mono fun _ _ h => ⟨h.1, by rw [h.2]; exact Gr.refl _⟩
 have H2 : Hid (∀ w', Gr w w' -> Calls Tryz.prog 61 #[.int .i64 v] w' fun e w2 => e = .returned (.bool (Rc.fiB v)) /\ Gr w' w2) := fun w' _ => (fits_any v w').mono fun _ _ h => ⟨h.1, by rw [h.2]; exact Gr.refl _⟩
 generalize Act.nameB a = b at *
 generalize Rc.fiB v = b2 at *
 clear hs
 cases b with
 | false =>
  go_enter Tryz.func32, Tryz.ntmps32
  go_wp2_with fail
  refine (H1.out _ ?_).mono ?_
  ·exact (by repeat(first|exact Gr.r _|refine Gr.a ?_|refine Gr.d ?_|refine Gr.t ?_ (by assumption)))
  rintro e4 w1 ⟨rfl, hg1⟩
  have G1 : Gr w w1 := (by repeat(first|exact Gr.r _|refine Gr.a ?_|refine Gr.d ?_|refine Gr.t ?_ (by assumption)))
  have BC1 := (Cs.new w _ _ _ rfl).alloc.gr hg1
  have BZ1 : Cs w1 (w.heap.size + 1) _ := (Cs.new _ _ _ _ (by simp)).gr hg1
  obtain ⟨c0, c1, c2, c3, c4, c5, c6, c7, c8, c9, c10, c11, c12, c13, cf0, cf1, cf2, cf3, cf4, cf5, cf6, cf7, cf8, cf9, cf10, cf11, cf12, cf13, clt⟩ := BC1.d14
  obtain ⟨z0, z1, z2, z3, z4, z5, z6, z7, z8, z9, z10, z11, z12, z13, zf0, zf1, zf2, zf3, zf4, zf5, zf6, zf7, zf8, zf9, zf10, zf11, zf12, zf13, zlt⟩ := BZ1.d14
  clear hg1
  go_wp2
  exact bodyPost_ret (v := .tuple #[.agg #[.int .i64 2, .int .i64 mk, .int .i64 r, .int .i64 n, .slice a1 L.length e1, .int .i64 s, .int .i64 y, .string md, .slice a2 T.length e2, .string ⟨#[]⟩, .int .i64 0, .string d, .slice a3 S.length e3, .string t], .bool false]) (by simp [results, Tryz.results32, go_sem, *]) rfl ⟨rfl, (by (with_reducible repeat' (first | exact Gr.refl _ | refine Gr.set ?_ _ ?_ _ | refine Gr.alloc ?_ | refine Gr.drew ?_ | refine Gr.trans ?_ (by assumption))) <;> (first | (simp; done) | (simp; omega) | omega))⟩
 | true =>
  go_enter Tryz.func32, Tryz.ntmps32
  go_wp2_with fail
  refine (H1.out _ ?_).mono ?_
  ·exact (by repeat(first|exact Gr.r _|refine Gr.a ?_|refine Gr.d ?_|refine Gr.t ?_ (by assumption)))
  rintro e4 w1 ⟨rfl, hg1⟩
  have G1 : Gr w w1 := (by repeat(first|exact Gr.r _|refine Gr.a ?_|refine Gr.d ?_|refine Gr.t ?_ (by assumption)))
  have BC1 := (Cs.new w _ _ _ rfl).alloc.gr hg1
  have BZ1 : Cs w1 (w.heap.size + 1) _ := (Cs.new _ _ _ _ (by simp)).gr hg1
  obtain ⟨c0, c1, c2, c3, c4, c5, c6, c7, c8, c9, c10, c11, c12, c13, cf0, cf1, cf2, cf3, cf4, cf5, cf6, cf7, cf8, cf9, cf10, cf11, cf12, cf13, clt⟩ := BC1.d14
  obtain ⟨z0, z1, z2, z3, z4, z5, z6, z7, z8, z9, z10, z11, z12, z13, zf0, zf1, zf2, zf3, zf4, zf5, zf6, zf7, zf8, zf9, zf10, zf11, zf12, zf13, zlt⟩ := BZ1.d14
  clear hg1
  go_wp2_with fail
  refine (H2.out _ ?_).mono ?_
  ·exact G1
  rintro e5 w2 ⟨rfl, hg2⟩
  have G2 : Gr w w2 := G1.trans hg2
  have BC2 := BC1.gr hg2
  have BZ2 := BZ1.gr hg2
  clear c0 cf0 z0 zf0 c1 cf1 z1 zf1 c2 cf2 z2 zf2 c3 cf3 z3 zf3 c4 cf4 z4 zf4 c5 cf5 z5 zf5 c6 cf6 z6 zf6 c7 cf7 z7 zf7 c8 cf8 z8 zf8 c9 cf9 z9 zf9 c10 cf10 z10 zf10 c11 cf11 z11 zf11 c12 cf12 z12 zf12 c13 cf13 z13 zf13 clt zlt
  obtain ⟨c0, c1, c2, c3, c4, c5, c6, c7, c8, c9, c10, c11, c12, c13, cf0, cf1, cf2, cf3, cf4, cf5, cf6, cf7, cf8, cf9, cf10, cf11, cf12, cf13, clt⟩ := BC2.d14
  obtain ⟨z0, z1, z2, z3, z4, z5, z6, z7, z8, z9, z10, z11, z12, z13, zf0, zf1, zf2, zf3, zf4, zf5, zf6, zf7, zf8, zf9, zf10, zf11, zf12, zf13, zlt⟩ := BZ2.d14
  clear hg2
  go_wp2
  exact bodyPost_ret (v := .tuple #[.agg #[.int .i64 2, .int .i64 mk, .int .i64 r, .int .i64 n, .slice a1 L.length e1, .int .i64 s, .int .i64 y, .string md, .slice a2 T.length e2, .string ⟨#[]⟩, .int .i64 0, .string d, .slice a3 S.length e3, .string t], .bool b2]) (by simp [results, Tryz.results32, go_sem, *]) rfl ⟨rfl, (by (with_reducible repeat' (first | exact Gr.refl _ | refine Gr.set ?_ _ ?_ _ | refine Gr.alloc ?_ | refine Gr.drew ?_ | refine Gr.trans ?_ (by assumption))) <;> (first | (simp; done) | (simp; omega) | omega))⟩

theorem without3 (mk r n : Int) (L : List (Int × Int)) (s y : Int) (md : ByteArray) (T : List Stp) (a : ByteArray) (v : Int) (d : ByteArray) (S : List Stp) (t : ByteArray) (a1 : Option Addr) (e1 : Nat) (a2 : Option Addr) (e2 : Nat) (a3 : Option Addr) (e3 : Nat) (w : World) (hS : StpsAt w a3 S) (hs : d.size <= 9223372036854775807) (hn : S.length <= 9223372036854775807) (hz : ∀ s ∈ S, inS s) :
  Calls Tryz.prog 32 #[.agg #[.int .i64 3, .int .i64 mk, .int .i64 r, .int .i64 n, .slice a1 L.length e1, .int .i64 s, .int .i64 y, .string md, .slice a2 T.length e2, .string a, .int .i64 v, .string d, .slice a3 S.length e3, .string t]] w fun e w' => e = .returned (.tuple #[.agg #[.int .i64 3, .int .i64 mk, .int .i64 r, .int .i64 n, .slice a1 L.length e1, .int .i64 s, .int .i64 y, .string md, .slice a2 T.length e2, .string a, .int .i64 v, .string ⟨#[]⟩, .slice none 0 0, .string t], .bool (Df.defB d S)]) /\ Gr w w' := by
 have H1 : Hid (∀ w', Gr w w' -> Calls Tryz.prog 62 #[.agg #[.string d, .slice a3 S.length e3]] w' fun e w2 => e = .returned (.int .i64 (if Df.defB d S = true then 0 else 90)) /\ Gr w' w2) := fun w' g => dCheck_any d S a3 e3 w' (hS.gr g) hs hn hz
 generalize Df.defB d S = b at *
 clear hS hs hn hz
 cases b with
 | false =>
  rw [if_neg (by decide)] at H1
  go_enter Tryz.func32, Tryz.ntmps32
  go_wp2_with fail
  refine (H1.out _ ?_).mono ?_
  ·exact (by repeat(first|exact Gr.r _|refine Gr.a ?_|refine Gr.d ?_|refine Gr.t ?_ (by assumption)))
  rintro e4 w1 ⟨rfl, hg1⟩
  have G1 : Gr w w1 := (by repeat(first|exact Gr.r _|refine Gr.a ?_|refine Gr.d ?_|refine Gr.t ?_ (by assumption)))
  have BC1 := (Cs.new w _ _ _ rfl).alloc.gr hg1
  have BZ1 : Cs w1 (w.heap.size + 1) _ := (Cs.new _ _ _ _ (by simp)).gr hg1
  obtain ⟨c0, c1, c2, c3, c4, c5, c6, c7, c8, c9, c10, c11, c12, c13, cf0, cf1, cf2, cf3, cf4, cf5, cf6, cf7, cf8, cf9, cf10, cf11, cf12, cf13, clt⟩ := BC1.d14
  obtain ⟨z0, z1, z2, z3, z4, z5, z6, z7, z8, z9, z10, z11, z12, z13, zf0, zf1, zf2, zf3, zf4, zf5, zf6, zf7, zf8, zf9, zf10, zf11, zf12, zf13, zlt⟩ := BZ1.d14
  clear hg1
  go_wp2
  exact bodyPost_ret (v := .tuple #[.agg #[.int .i64 3, .int .i64 mk, .int .i64 r, .int .i64 n, .slice a1 L.length e1, .int .i64 s, .int .i64 y, .string md, .slice a2 T.length e2, .string a, .int .i64 v, .string ⟨#[]⟩, .slice none 0 0, .string t], .bool false]) (by simp [results, Tryz.results32, go_sem, *]) rfl ⟨rfl, (by (with_reducible repeat' (first | exact Gr.refl _ | refine Gr.set ?_ _ ?_ _ | refine Gr.alloc ?_ | refine Gr.drew ?_ | refine Gr.trans ?_ (by assumption))) <;> (first | (simp; done) | (simp; omega) | omega))⟩
 | true =>
  rw [if_pos rfl] at H1
  go_enter Tryz.func32, Tryz.ntmps32
  go_wp2_with fail
  refine (H1.out _ ?_).mono ?_
  ·exact (by repeat(first|exact Gr.r _|refine Gr.a ?_|refine Gr.d ?_|refine Gr.t ?_ (by assumption)))
  rintro e4 w1 ⟨rfl, hg1⟩
  have G1 : Gr w w1 := (by repeat(first|exact Gr.r _|refine Gr.a ?_|refine Gr.d ?_|refine Gr.t ?_ (by assumption)))
  have BC1 := (Cs.new w _ _ _ rfl).alloc.gr hg1
  have BZ1 : Cs w1 (w.heap.size + 1) _ := (Cs.new _ _ _ _ (by simp)).gr hg1
  obtain ⟨c0, c1, c2, c3, c4, c5, c6, c7, c8, c9, c10, c11, c12, c13, cf0, cf1, cf2, cf3, cf4, cf5, cf6, cf7, cf8, cf9, cf10, cf11, cf12, cf13, clt⟩ := BC1.d14
  obtain ⟨z0, z1, z2, z3, z4, z5, z6, z7, z8, z9, z10, z11, z12, z13, zf0, zf1, zf2, zf3, zf4, zf5, zf6, zf7, zf8, zf9, zf10, zf11, zf12, zf13, zlt⟩ := BZ1.d14
  clear hg1
  go_wp2
  exact bodyPost_ret (v := .tuple #[.agg #[.int .i64 3, .int .i64 mk, .int .i64 r, .int .i64 n, .slice a1 L.length e1, .int .i64 s, .int .i64 y, .string md, .slice a2 T.length e2, .string a, .int .i64 v, .string ⟨#[]⟩, .slice none 0 0, .string t], .bool true]) (by simp [results, Tryz.results32, go_sem, *]) rfl ⟨rfl, (by (with_reducible repeat' (first | exact Gr.refl _ | refine Gr.set ?_ _ ?_ _ | refine Gr.alloc ?_ | refine Gr.drew ?_ | refine Gr.trans ?_ (by assumption))) <;> (first | (simp; done) | (simp; omega) | omega))⟩

theorem without4 (mk r n : Int) (L : List (Int × Int)) (s y : Int) (md : ByteArray) (T : List Stp) (a : ByteArray) (v : Int) (d : ByteArray) (S : List Stp) (t : ByteArray) (a1 : Option Addr) (e1 : Nat) (a2 : Option Addr) (e2 : Nat) (a3 : Option Addr) (e3 : Nat) (w : World) :
  Calls Tryz.prog 32 #[.agg #[.int .i64 4, .int .i64 mk, .int .i64 r, .int .i64 n, .slice a1 L.length e1, .int .i64 s, .int .i64 y, .string md, .slice a2 T.length e2, .string a, .int .i64 v, .string d, .slice a3 S.length e3, .string t]] w fun e w' => e = .returned (.tuple #[.agg #[.int .i64 4, .int .i64 mk, .int .i64 r, .int .i64 n, .slice a1 L.length e1, .int .i64 s, .int .i64 y, .string md, .slice a2 T.length e2, .string a, .int .i64 v, .string d, .slice a3 S.length e3, .string t], .bool (true)]) /\ Gr w w' := by

 have BC0 : Cs ((w.alloc (.cells (#[.int .i64 4, .int .i64 mk, .int .i64 r, .int .i64 n, .slice a1 L.length e1, .int .i64 s, .int .i64 y, .string md, .slice a2 T.length e2, .string a, .int .i64 v, .string d, .slice a3 S.length e3, .string t] : Array Value) 31)).alloc (.cells (#[.int .i64 0, .int .i64 0, .int .i64 0, .int .i64 0, .slice none 0 0, .int .i64 0, .int .i64 0, .string ⟨#[]⟩, .slice none 0 0, .string ⟨#[]⟩, .int .i64 0, .string ⟨#[]⟩, .slice none 0 0, .string ⟨#[]⟩] : Array Value) 31)) w.heap.size [.int .i64 4, .int .i64 mk, .int .i64 r, .int .i64 n, .slice a1 L.length e1, .int .i64 s, .int .i64 y, .string md, .slice a2 T.length e2, .string a, .int .i64 v, .string d, .slice a3 S.length e3, .string t] := (Cs.new w [.int .i64 4, .int .i64 mk, .int .i64 r, .int .i64 n, .slice a1 L.length e1, .int .i64 s, .int .i64 y, .string md, .slice a2 T.length e2, .string a, .int .i64 v, .string d, .slice a3 S.length e3, .string t] 31 _ rfl).alloc
 have BZ0 : Cs ((w.alloc (.cells (#[.int .i64 4, .int .i64 mk, .int .i64 r, .int .i64 n, .slice a1 L.length e1, .int .i64 s, .int .i64 y, .string md, .slice a2 T.length e2, .string a, .int .i64 v, .string d, .slice a3 S.length e3, .string t] : Array Value) 31)).alloc (.cells (#[.int .i64 0, .int .i64 0, .int .i64 0, .int .i64 0, .slice none 0 0, .int .i64 0, .int .i64 0, .string ⟨#[]⟩, .slice none 0 0, .string ⟨#[]⟩, .int .i64 0, .string ⟨#[]⟩, .slice none 0 0, .string ⟨#[]⟩] : Array Value) 31)) (w.heap.size + 1) [.int .i64 0, .int .i64 0, .int .i64 0, .int .i64 0, .slice none 0 0, .int .i64 0, .int .i64 0, .string ⟨#[]⟩, .slice none 0 0, .string ⟨#[]⟩, .int .i64 0, .string ⟨#[]⟩, .slice none 0 0, .string ⟨#[]⟩] := Cs.new _ [.int .i64 0, .int .i64 0, .int .i64 0, .int .i64 0, .slice none 0 0, .int .i64 0, .int .i64 0, .string ⟨#[]⟩, .slice none 0 0, .string ⟨#[]⟩, .int .i64 0, .string ⟨#[]⟩, .slice none 0 0, .string ⟨#[]⟩] 31 _ (by simp)
 obtain ⟨c0, c1, c2, c3, c4, c5, c6, c7, c8, c9, c10, c11, c12, c13, cf0, cf1, cf2, cf3, cf4, cf5, cf6, cf7, cf8, cf9, cf10, cf11, cf12, cf13, clt⟩ := BC0.d14
 obtain ⟨z0, z1, z2, z3, z4, z5, z6, z7, z8, z9, z10, z11, z12, z13, zf0, zf1, zf2, zf3, zf4, zf5, zf6, zf7, zf8, zf9, zf10, zf11, zf12, zf13, zlt⟩ := BZ0.d14
 go_enter Tryz.func32, Tryz.ntmps32
 go_wp2
 exact bodyPost_ret (v := .tuple #[.agg #[.int .i64 4, .int .i64 mk, .int .i64 r, .int .i64 n, .slice a1 L.length e1, .int .i64 s, .int .i64 y, .string md, .slice a2 T.length e2, .string a, .int .i64 v, .string d, .slice a3 S.length e3, .string t], .bool true]) (by simp [results, Tryz.results32, go_sem, *]) rfl ⟨rfl, (by (with_reducible repeat' (first | exact Gr.refl _ | refine Gr.set ?_ _ ?_ _ | refine Gr.alloc ?_ | refine Gr.drew ?_ | refine Gr.trans ?_ (by assumption))) <;> (first | (simp; done) | (simp; omega) | omega))⟩

theorem without5 (mk r n : Int) (L : List (Int × Int)) (s y : Int) (md : ByteArray) (T : List Stp) (a : ByteArray) (v : Int) (d : ByteArray) (S : List Stp) (t : ByteArray) (a1 : Option Addr) (e1 : Nat) (a2 : Option Addr) (e2 : Nat) (a3 : Option Addr) (e3 : Nat) (w : World) :
  Calls Tryz.prog 32 #[.agg #[.int .i64 5, .int .i64 mk, .int .i64 r, .int .i64 n, .slice a1 L.length e1, .int .i64 s, .int .i64 y, .string md, .slice a2 T.length e2, .string a, .int .i64 v, .string d, .slice a3 S.length e3, .string t]] w fun e w' => e = .returned (.tuple #[.agg #[.int .i64 5, .int .i64 mk, .int .i64 r, .int .i64 n, .slice a1 L.length e1, .int .i64 s, .int .i64 y, .string md, .slice a2 T.length e2, .string a, .int .i64 v, .string d, .slice a3 S.length e3, .string ⟨#[]⟩], .bool (decide (t.size <= 29000))]) /\ Gr w w' := by
 have hd : decide ((t.size : Int) <= 29000) = decide (t.size <= 29000) := decide_eq_decide.2 (by omega)
 by_cases h5 : (t.size : Int) <= 29000
 ·rw [<- hd, decide_eq_true h5]
  clear hd
  have BC0 : Cs ((w.alloc (.cells (#[.int .i64 5, .int .i64 mk, .int .i64 r, .int .i64 n, .slice a1 L.length e1, .int .i64 s, .int .i64 y, .string md, .slice a2 T.length e2, .string a, .int .i64 v, .string d, .slice a3 S.length e3, .string t] : Array Value) 31)).alloc (.cells (#[.int .i64 0, .int .i64 0, .int .i64 0, .int .i64 0, .slice none 0 0, .int .i64 0, .int .i64 0, .string ⟨#[]⟩, .slice none 0 0, .string ⟨#[]⟩, .int .i64 0, .string ⟨#[]⟩, .slice none 0 0, .string ⟨#[]⟩] : Array Value) 31)) w.heap.size [.int .i64 5, .int .i64 mk, .int .i64 r, .int .i64 n, .slice a1 L.length e1, .int .i64 s, .int .i64 y, .string md, .slice a2 T.length e2, .string a, .int .i64 v, .string d, .slice a3 S.length e3, .string t] := (Cs.new w [.int .i64 5, .int .i64 mk, .int .i64 r, .int .i64 n, .slice a1 L.length e1, .int .i64 s, .int .i64 y, .string md, .slice a2 T.length e2, .string a, .int .i64 v, .string d, .slice a3 S.length e3, .string t] 31 _ rfl).alloc
  have BZ0 : Cs ((w.alloc (.cells (#[.int .i64 5, .int .i64 mk, .int .i64 r, .int .i64 n, .slice a1 L.length e1, .int .i64 s, .int .i64 y, .string md, .slice a2 T.length e2, .string a, .int .i64 v, .string d, .slice a3 S.length e3, .string t] : Array Value) 31)).alloc (.cells (#[.int .i64 0, .int .i64 0, .int .i64 0, .int .i64 0, .slice none 0 0, .int .i64 0, .int .i64 0, .string ⟨#[]⟩, .slice none 0 0, .string ⟨#[]⟩, .int .i64 0, .string ⟨#[]⟩, .slice none 0 0, .string ⟨#[]⟩] : Array Value) 31)) (w.heap.size + 1) [.int .i64 0, .int .i64 0, .int .i64 0, .int .i64 0, .slice none 0 0, .int .i64 0, .int .i64 0, .string ⟨#[]⟩, .slice none 0 0, .string ⟨#[]⟩, .int .i64 0, .string ⟨#[]⟩, .slice none 0 0, .string ⟨#[]⟩] := Cs.new _ [.int .i64 0, .int .i64 0, .int .i64 0, .int .i64 0, .slice none 0 0, .int .i64 0, .int .i64 0, .string ⟨#[]⟩, .slice none 0 0, .string ⟨#[]⟩, .int .i64 0, .string ⟨#[]⟩, .slice none 0 0, .string ⟨#[]⟩] 31 _ (by simp)
  obtain ⟨c0, c1, c2, c3, c4, c5, c6, c7, c8, c9, c10, c11, c12, c13, cf0, cf1, cf2, cf3, cf4, cf5, cf6, cf7, cf8, cf9, cf10, cf11, cf12, cf13, clt⟩ := BC0.d14
  obtain ⟨z0, z1, z2, z3, z4, z5, z6, z7, z8, z9, z10, z11, z12, z13, zf0, zf1, zf2, zf3, zf4, zf5, zf6, zf7, zf8, zf9, zf10, zf11, zf12, zf13, zlt⟩ := BZ0.d14
  go_enter Tryz.func32, Tryz.ntmps32
  go_wp2
  exact bodyPost_ret (v := .tuple #[.agg #[.int .i64 5, .int .i64 mk, .int .i64 r, .int .i64 n, .slice a1 L.length e1, .int .i64 s, .int .i64 y, .string md, .slice a2 T.length e2, .string a, .int .i64 v, .string d, .slice a3 S.length e3, .string ⟨#[]⟩], .bool true]) (by simp [results, Tryz.results32, go_sem, *]) rfl ⟨rfl, (by (with_reducible repeat' (first | exact Gr.refl _ | refine Gr.set ?_ _ ?_ _ | refine Gr.alloc ?_ | refine Gr.drew ?_ | refine Gr.trans ?_ (by assumption))) <;> (first | (simp; done) | (simp; omega) | omega))⟩
 ·rw [<- hd, decide_eq_false h5]
  clear hd
  have BC0 : Cs ((w.alloc (.cells (#[.int .i64 5, .int .i64 mk, .int .i64 r, .int .i64 n, .slice a1 L.length e1, .int .i64 s, .int .i64 y, .string md, .slice a2 T.length e2, .string a, .int .i64 v, .string d, .slice a3 S.length e3, .string t] : Array Value) 31)).alloc (.cells (#[.int .i64 0, .int .i64 0, .int .i64 0, .int .i64 0, .slice none 0 0, .int .i64 0, .int .i64 0, .string ⟨#[]⟩, .slice none 0 0, .string ⟨#[]⟩, .int .i64 0, .string ⟨#[]⟩, .slice none 0 0, .string ⟨#[]⟩] : Array Value) 31)) w.heap.size [.int .i64 5, .int .i64 mk, .int .i64 r, .int .i64 n, .slice a1 L.length e1, .int .i64 s, .int .i64 y, .string md, .slice a2 T.length e2, .string a, .int .i64 v, .string d, .slice a3 S.length e3, .string t] := (Cs.new w [.int .i64 5, .int .i64 mk, .int .i64 r, .int .i64 n, .slice a1 L.length e1, .int .i64 s, .int .i64 y, .string md, .slice a2 T.length e2, .string a, .int .i64 v, .string d, .slice a3 S.length e3, .string t] 31 _ rfl).alloc
  have BZ0 : Cs ((w.alloc (.cells (#[.int .i64 5, .int .i64 mk, .int .i64 r, .int .i64 n, .slice a1 L.length e1, .int .i64 s, .int .i64 y, .string md, .slice a2 T.length e2, .string a, .int .i64 v, .string d, .slice a3 S.length e3, .string t] : Array Value) 31)).alloc (.cells (#[.int .i64 0, .int .i64 0, .int .i64 0, .int .i64 0, .slice none 0 0, .int .i64 0, .int .i64 0, .string ⟨#[]⟩, .slice none 0 0, .string ⟨#[]⟩, .int .i64 0, .string ⟨#[]⟩, .slice none 0 0, .string ⟨#[]⟩] : Array Value) 31)) (w.heap.size + 1) [.int .i64 0, .int .i64 0, .int .i64 0, .int .i64 0, .slice none 0 0, .int .i64 0, .int .i64 0, .string ⟨#[]⟩, .slice none 0 0, .string ⟨#[]⟩, .int .i64 0, .string ⟨#[]⟩, .slice none 0 0, .string ⟨#[]⟩] := Cs.new _ [.int .i64 0, .int .i64 0, .int .i64 0, .int .i64 0, .slice none 0 0, .int .i64 0, .int .i64 0, .string ⟨#[]⟩, .slice none 0 0, .string ⟨#[]⟩, .int .i64 0, .string ⟨#[]⟩, .slice none 0 0, .string ⟨#[]⟩] 31 _ (by simp)
  obtain ⟨c0, c1, c2, c3, c4, c5, c6, c7, c8, c9, c10, c11, c12, c13, cf0, cf1, cf2, cf3, cf4, cf5, cf6, cf7, cf8, cf9, cf10, cf11, cf12, cf13, clt⟩ := BC0.d14
  obtain ⟨z0, z1, z2, z3, z4, z5, z6, z7, z8, z9, z10, z11, z12, z13, zf0, zf1, zf2, zf3, zf4, zf5, zf6, zf7, zf8, zf9, zf10, zf11, zf12, zf13, zlt⟩ := BZ0.d14
  go_enter Tryz.func32, Tryz.ntmps32
  go_wp2
  exact bodyPost_ret (v := .tuple #[.agg #[.int .i64 5, .int .i64 mk, .int .i64 r, .int .i64 n, .slice a1 L.length e1, .int .i64 s, .int .i64 y, .string md, .slice a2 T.length e2, .string a, .int .i64 v, .string d, .slice a3 S.length e3, .string ⟨#[]⟩], .bool false]) (by simp [results, Tryz.results32, go_sem, *]) rfl ⟨rfl, (by (with_reducible repeat' (first | exact Gr.refl _ | refine Gr.set ?_ _ ?_ _ | refine Gr.alloc ?_ | refine Gr.drew ?_ | refine Gr.trans ?_ (by assumption))) <;> (first | (simp; done) | (simp; omega) | omega))⟩

theorem without6 (k mk r n : Int) (L : List (Int × Int)) (s y : Int) (md : ByteArray) (T : List Stp) (a : ByteArray) (v : Int) (d : ByteArray) (S : List Stp) (t : ByteArray) (a1 : Option Addr) (e1 : Nat) (a2 : Option Addr) (e2 : Nat) (a3 : Option Addr) (e3 : Nat) (w : World) (h1 : ¬ k = 1) (h2 : ¬ k = 2) (h3 : ¬ k = 3) (h4 : ¬ k = 4) (h5 : ¬ k = 5) :
  Calls Tryz.prog 32 #[.agg #[.int .i64 k, .int .i64 mk, .int .i64 r, .int .i64 n, .slice a1 L.length e1, .int .i64 s, .int .i64 y, .string md, .slice a2 T.length e2, .string a, .int .i64 v, .string d, .slice a3 S.length e3, .string t]] w fun e w' => e = .returned (.tuple #[.agg #[.int .i64 k, .int .i64 mk, .int .i64 r, .int .i64 n, .slice a1 L.length e1, .int .i64 s, .int .i64 y, .string md, .slice a2 T.length e2, .string a, .int .i64 v, .string d, .slice a3 S.length e3, .string t], .bool (false)]) /\ Gr w w' := by
 have q1 : (k == 1) = false := by simpa using h1
 have q2 : (k == 2) = false := by simpa using h2
 have q3 : (k == 3) = false := by simpa using h3
 have q4 : (k == 4) = false := by simpa using h4
 have q5 : (k == 5) = false := by simpa using h5
 clear h1 h2 h3 h4 h5
 have BC0 : Cs ((w.alloc (.cells (#[.int .i64 k, .int .i64 mk, .int .i64 r, .int .i64 n, .slice a1 L.length e1, .int .i64 s, .int .i64 y, .string md, .slice a2 T.length e2, .string a, .int .i64 v, .string d, .slice a3 S.length e3, .string t] : Array Value) 31)).alloc (.cells (#[.int .i64 0, .int .i64 0, .int .i64 0, .int .i64 0, .slice none 0 0, .int .i64 0, .int .i64 0, .string ⟨#[]⟩, .slice none 0 0, .string ⟨#[]⟩, .int .i64 0, .string ⟨#[]⟩, .slice none 0 0, .string ⟨#[]⟩] : Array Value) 31)) w.heap.size [.int .i64 k, .int .i64 mk, .int .i64 r, .int .i64 n, .slice a1 L.length e1, .int .i64 s, .int .i64 y, .string md, .slice a2 T.length e2, .string a, .int .i64 v, .string d, .slice a3 S.length e3, .string t] := (Cs.new w [.int .i64 k, .int .i64 mk, .int .i64 r, .int .i64 n, .slice a1 L.length e1, .int .i64 s, .int .i64 y, .string md, .slice a2 T.length e2, .string a, .int .i64 v, .string d, .slice a3 S.length e3, .string t] 31 _ rfl).alloc
 have BZ0 : Cs ((w.alloc (.cells (#[.int .i64 k, .int .i64 mk, .int .i64 r, .int .i64 n, .slice a1 L.length e1, .int .i64 s, .int .i64 y, .string md, .slice a2 T.length e2, .string a, .int .i64 v, .string d, .slice a3 S.length e3, .string t] : Array Value) 31)).alloc (.cells (#[.int .i64 0, .int .i64 0, .int .i64 0, .int .i64 0, .slice none 0 0, .int .i64 0, .int .i64 0, .string ⟨#[]⟩, .slice none 0 0, .string ⟨#[]⟩, .int .i64 0, .string ⟨#[]⟩, .slice none 0 0, .string ⟨#[]⟩] : Array Value) 31)) (w.heap.size + 1) [.int .i64 0, .int .i64 0, .int .i64 0, .int .i64 0, .slice none 0 0, .int .i64 0, .int .i64 0, .string ⟨#[]⟩, .slice none 0 0, .string ⟨#[]⟩, .int .i64 0, .string ⟨#[]⟩, .slice none 0 0, .string ⟨#[]⟩] := Cs.new _ [.int .i64 0, .int .i64 0, .int .i64 0, .int .i64 0, .slice none 0 0, .int .i64 0, .int .i64 0, .string ⟨#[]⟩, .slice none 0 0, .string ⟨#[]⟩, .int .i64 0, .string ⟨#[]⟩, .slice none 0 0, .string ⟨#[]⟩] 31 _ (by simp)
 obtain ⟨c0, c1, c2, c3, c4, c5, c6, c7, c8, c9, c10, c11, c12, c13, cf0, cf1, cf2, cf3, cf4, cf5, cf6, cf7, cf8, cf9, cf10, cf11, cf12, cf13, clt⟩ := BC0.d14
 obtain ⟨z0, z1, z2, z3, z4, z5, z6, z7, z8, z9, z10, z11, z12, z13, zf0, zf1, zf2, zf3, zf4, zf5, zf6, zf7, zf8, zf9, zf10, zf11, zf12, zf13, zlt⟩ := BZ0.d14
 go_enter Tryz.func32, Tryz.ntmps32
 go_wp2
 exact bodyPost_ret (v := .tuple #[.agg #[.int .i64 k, .int .i64 mk, .int .i64 r, .int .i64 n, .slice a1 L.length e1, .int .i64 s, .int .i64 y, .string md, .slice a2 T.length e2, .string a, .int .i64 v, .string d, .slice a3 S.length e3, .string t], .bool false]) (by simp [results, Tryz.results32, go_sem, *]) rfl ⟨rfl, (by (with_reducible repeat' (first | exact Gr.refl _ | refine Gr.set ?_ _ ?_ _ | refine Gr.alloc ?_ | refine Gr.drew ?_ | refine Gr.trans ?_ (by assumption))) <;> (first | (simp; done) | (simp; omega) | omega))⟩


theorem without_any (k mk r n : Int) (L : List (Int × Int)) (s y : Int) (md : ByteArray) (T : List Stp) (a : ByteArray) (v : Int) (d : ByteArray) (S : List Stp) (t : ByteArray) (a1 : Option Addr) (e1 : Nat) (a2 : Option Addr) (e2 : Nat) (a3 : Option Addr) (e3 : Nat) (w : World) (h : RcIn w (⟨k, ⟨mk, r, n, L, s, y, md, T⟩, a, v, d, S, t⟩ : Rc) a1 e1 a2 e2 a3 e3) (hF : Forms w) :
  Calls Tryz.prog 32 #[.agg #[.int .i64 k, .int .i64 mk, .int .i64 r, .int .i64 n, .slice a1 L.length e1, .int .i64 s, .int .i64 y, .string md, .slice a2 T.length e2, .string a, .int .i64 v, .string d, .slice a3 S.length e3, .string t]] w fun e w' => WoR (⟨k, ⟨mk, r, n, L, s, y, md, T⟩, a, v, d, S, t⟩ : Rc) w e w' := by
 have hm : MvIn w (⟨mk, r, n, L, s, y, md, T⟩ : Mv) a1 e1 a2 e2 := h.mv
 by_cases h1 : k = 1
 ·subst h1
  exact (without1 mk r n L s y md T a v d S t a1 e1 a2 e2 a3 e3 w hm hF).mono fun _ _ q => ⟨none, 0, none, 0, a3, e3, q.1, q.2⟩
 by_cases h2 : k = 2
 ·subst h2
  exact (without2 mk r n L s y md T a v d S t a1 e1 a2 e2 a3 e3 w h.na).mono fun _ _ q => ⟨a1, e1, a2, e2, a3, e3, q.1, q.2⟩
 by_cases h3 : k = 3
 ·subst h3
  exact (without3 mk r n L s y md T a v d S t a1 e1 a2 e2 a3 e3 w h.stps h.nd h.nS h.inS).mono fun _ _ q => ⟨a1, e1, a2, e2, none, 0, q.1, q.2⟩
 by_cases h4 : k = 4
 ·subst h4
  exact (without4 mk r n L s y md T a v d S t a1 e1 a2 e2 a3 e3 w).mono fun _ _ q => ⟨a1, e1, a2, e2, a3, e3, q.1, q.2⟩
 by_cases h5 : k = 5
 ·subst h5
  exact (without5 mk r n L s y md T a v d S t a1 e1 a2 e2 a3 e3 w).mono fun _ _ q => ⟨a1, e1, a2, e2, a3, e3, q.1, q.2⟩
 have e1' : Rc.wo (⟨k, ⟨mk, r, n, L, s, y, md, T⟩, a, v, d, S, t⟩ : Rc) = (⟨k, ⟨mk, r, n, L, s, y, md, T⟩, a, v, d, S, t⟩ : Rc) := by unfold Rc.wo; simp only; rw [if_neg h1, if_neg h2, if_neg h3, if_neg h5]
 have e2' : Rc.woB (⟨k, ⟨mk, r, n, L, s, y, md, T⟩, a, v, d, S, t⟩ : Rc) = false := by unfold Rc.woB; simp only; rw [if_neg h1, if_neg h2, if_neg h3, if_neg h4, if_neg h5]
 exact (without6 k mk r n L s y md T a v d S t a1 e1 a2 e2 a3 e3 w h1 h2 h3 h4 h5).mono fun _ _ q => ⟨a1, e1, a2, e2, a3, e3, by rw [e1', e2']; exact q.1, q.2⟩
end Go.Proofs.YthaadiclopoamaaGreatDoor
