/- Parts of these proofs, laid together. -/
import Derived.Test.YthaadiclopoamaaGreatDoorGR
import Derived.Test.YthaadiclopoamaaGreatDoorGA
import Derived.Test.YthaadiclopoamaaGreatDoorGL
/- record: what a move may have. -/
set_option maxRecDepth 100000
set_option maxHeartbeats 8000000
namespace Go.Proofs.YthaadiclopoamaaGreatDoor
open Go.RowKit
open Df (Stp)

/- the forms of the kinds lie there -/
theorem keep_allocR {w : World} {p : Addr} {v : Value} {o : Obj} (h : w.cell? p = some v) : (w.alloc o).cell? p = some v := (Gr.refl w).alloc.keep h
def frC (k : Int) : List Value := [.string ⟨(Rc.wordL k).toArray⟩, .bool (decide (k = 2)), .bool (decide (k = 1)), .bool (Rc.wyK k), .int .i64 (Rc.stK k)]
def Forms (w : World) : Prop := ∀ j : Nat, j < 16 -> ∀ (i : Nat) (v : Value), (frC ((j : Int) + 1))[i]? = some v -> w.cell? ⟨0, j * 5 + i, none⟩ = some v
theorem Forms.gr {w w' : World} (h : Forms w) (g : Gr w w') : Forms w' := fun j hj i v e => g.keep (h j hj i v e)

theorem formOf_any (k : Int) (w : World) (h1 : 1 <= k) (h2 : k <= 16) (hF : Forms w) :
  Calls Tryz.prog 21 #[.int .i64 k] w fun e w' => e = .returned (.agg (frC k).toArray) /\ Gr w w' := by
 obtain ⟨j, hj, rfl⟩ : ∃ j : Nat, j < 16 /\ k = (j : Int) + 1 := ⟨(k - 1).toNat, by omega, by omega⟩
 have HF : Hid (∀ (i : Nat) (v : Value), (frC ((j : Int) + 1))[i]? = some v -> w.cell? ⟨0, j * 5 + i, none⟩ = some v) := hF j hj
 unfold frC at HF ⊢
 have hw : IntKind.i64.wrap ((j : Int) + 1 - 1) = (j : Int) := by rw [IntKind.wrap_i64]; omega
 have c0 : w.cell? ⟨0, j * 5, none⟩ = _ := HF.out 0 _ rfl
 have c1 := HF.out 1 _ rfl
 have c2 := HF.out 2 _ rfl
 have c3 := HF.out 3 _ rfl
 have c4 := HF.out 4 _ rfl
 have q0 := keep_allocR (o := .cells (#[.string ⟨#[]⟩, .bool false, .bool false, .bool false, .int .i64 0] : Array Value) 53) c0
 have q1 := keep_allocR (o := .cells (#[.string ⟨#[]⟩, .bool false, .bool false, .bool false, .int .i64 0] : Array Value) 53) c1
 have q2 := keep_allocR (o := .cells (#[.string ⟨#[]⟩, .bool false, .bool false, .bool false, .int .i64 0] : Array Value) 53) c2
 have q3 := keep_allocR (o := .cells (#[.string ⟨#[]⟩, .bool false, .bool false, .bool false, .int .i64 0] : Array Value) 53) c3
 have q4 := keep_allocR (o := .cells (#[.string ⟨#[]⟩, .bool false, .bool false, .bool false, .int .i64 0] : Array Value) 53) c4
 clear hF h1 h2
 go_enter Tryz.func21, Tryz.ntmps21
 go_wp2
 exact bodyPost_ret (v := .agg #[.string ⟨(Rc.wordL ((j : Int) + 1)).toArray⟩, .bool (decide ((j : Int) + 1 = 2)), .bool (decide ((j : Int) + 1 = 1)), .bool (Rc.wyK ((j : Int) + 1)), .int .i64 (Rc.stK ((j : Int) + 1))]) (by simp [results, Tryz.results21, go_sem, *]) rfl ⟨rfl, (by (with_reducible repeat' (first | exact Gr.refl _ | refine Gr.set ?_ _ ?_ _ | refine Gr.alloc ?_ | refine Gr.drew ?_ | refine Gr.trans ?_ (by assumption))) <;> (first | (simp; done) | (simp; omega) | omega))⟩

theorem idFits_any (r n : Int) (L : List (Int × Int)) (a1 : Option Addr) (c1 : Nat) (c : Bool) (w : World) (hL : HopsAt w a1 L) (hn : L.length <= 9223372036854775807) :
  Calls Tryz.prog 55 #[.agg #[.int .i64 r, .int .i64 n, .slice a1 L.length c1], .bool c] w fun e w' => e = .returned (.bool (Idn.mayB r n L && (!c || decide (0 < L.length)))) /\ Gr w w' := by
 have HK : Hid (∀ w', Gr w w' -> Calls Tryz.prog 53 #[.agg #[.int .i64 r, .int .i64 n, .slice a1 L.length c1]] w' fun e w2 => e = .returned (.int .i64 (if Idn.mayB r n L = true then 0 else 30)) /\ Gr w' w2) := fun w' g => check_any r n L a1 c1 w' (hL.gr g) hn
 generalize Idn.mayB r n L = b at *
 clear hL hn
 cases b with
 | false =>
  rw [if_neg (by decide)] at HK
  go_enter Tryz.func55, Tryz.ntmps55
  go_wp2_with fail
  refine (HK.out _ ?_).mono ?_
  ·exact (by repeat(first|exact Gr.r _|refine Gr.a ?_|refine Gr.d ?_|refine Gr.t ?_ (by assumption)))
  rintro e1 w1 ⟨rfl, hg1⟩
  go_wp2
  go_ret
  exact ⟨rfl, (by repeat(first|exact Gr.r _|refine Gr.a ?_|refine Gr.d ?_|refine Gr.t ?_ (by assumption)))⟩
 | true =>
  rw [if_pos rfl] at HK
  cases c with
  | false =>
   go_enter Tryz.func55, Tryz.ntmps55
   go_wp2_with fail
   refine (HK.out _ ?_).mono ?_
   ·exact (by repeat(first|exact Gr.r _|refine Gr.a ?_|refine Gr.d ?_|refine Gr.t ?_ (by assumption)))
   rintro e1 w1 ⟨rfl, hg1⟩
   go_wp2
   go_ret
   exact ⟨rfl, (by repeat(first|exact Gr.r _|refine Gr.a ?_|refine Gr.d ?_|refine Gr.t ?_ (by assumption)))⟩
  | true =>
   rw [show (true && (!true || decide (0 < L.length))) = decide (0 < L.length) by simp]
   go_enter Tryz.func55, Tryz.ntmps55
   go_wp2_with fail
   refine (HK.out _ ?_).mono ?_
   ·exact (by repeat(first|exact Gr.r _|refine Gr.a ?_|refine Gr.d ?_|refine Gr.t ?_ (by assumption)))
   rintro e1 w1 ⟨rfl, hg1⟩
   have B1 := (Cs.new w [.int .i64 r, .int .i64 n, .slice a1 L.length c1] 24 _ rfl).gr hg1
   have q2 := B1.at_ 2 _ rfl
   have qlt := B1.lt
   go_wp2
   go_ret
   exact ⟨rfl, (by repeat(first|exact Gr.r _|refine Gr.a ?_|refine Gr.d ?_|refine Gr.t ?_ (by assumption)))⟩

theorem defFits_any (d : ByteArray) (S : List Stp) (a2 : Option Addr) (c2 : Nat) (c : Bool) (w : World) (hS : StpsAt w a2 S) (hs : d.size <= 9223372036854775807) (hn : S.length <= 9223372036854775807) (hz : ∀ s ∈ S, inS s) :
  Calls Tryz.prog 56 #[.agg #[.string d, .slice a2 S.length c2], .bool c] w fun e w' => e = .returned (.bool (Rc.dfB c d S)) /\ Gr w w' := by
 have HK : Hid (∀ w', Gr w w' -> Calls Tryz.prog 62 #[.agg #[.string d, .slice a2 S.length c2]] w' fun e w2 => e = .returned (.int .i64 (if Df.defB d S = true then 0 else 90)) /\ Gr w' w2) := fun w' g => dCheck_any d S a2 c2 w' (hS.gr g) hs hn hz
 have HE : Hid (∀ w' : World, Calls Tryz.prog 34 #[.agg #[.string d, .slice a2 S.length c2]] w' fun e w2 => e = .returned (.bool (Rc.baB d S)) /\ Gr w' w2) := fun w' => emptyDef_any d S a2 c2 w'
 unfold Rc.dfB
 generalize Df.defB d S = b at *
 generalize Rc.baB d S = b2 at *
 clear hS hs hn hz
 cases c with
 | false =>
  rw [if_neg (by decide)]
  go_enter Tryz.func56, Tryz.ntmps56
  go_wp2_with fail
  refine (HE.out _).mono ?_
  rintro e1 w1 ⟨rfl, hg1⟩
  go_wp2
  go_ret
  exact ⟨rfl, (by repeat(first|exact Gr.r _|refine Gr.a ?_|refine Gr.d ?_|refine Gr.t ?_ (by assumption)))⟩
 | true =>
  rw [if_pos rfl]
  cases b with
  | false =>
   rw [if_neg (by decide)] at HK
   go_enter Tryz.func56, Tryz.ntmps56
   go_wp2_with fail
   refine (HK.out _ ?_).mono ?_
   ·exact (by repeat(first|exact Gr.r _|refine Gr.a ?_|refine Gr.d ?_|refine Gr.t ?_ (by assumption)))
   rintro e1 w1 ⟨rfl, hg1⟩
   go_wp2
   go_ret
   exact ⟨rfl, (by repeat(first|exact Gr.r _|refine Gr.a ?_|refine Gr.d ?_|refine Gr.t ?_ (by assumption)))⟩
  | true =>
   rw [if_pos rfl] at HK
   go_enter Tryz.func56, Tryz.ntmps56
   go_wp2_with fail
   refine (HK.out _ ?_).mono ?_
   ·exact (by repeat(first|exact Gr.r _|refine Gr.a ?_|refine Gr.d ?_|refine Gr.t ?_ (by assumption)))
   rintro e1 w1 ⟨rfl, hg1⟩
   go_wp2
   go_ret
   exact ⟨rfl, (by repeat(first|exact Gr.r _|refine Gr.a ?_|refine Gr.d ?_|refine Gr.t ?_ (by assumption)))⟩

theorem whyFits_any (y : Int) (c : Bool) (w : World) :
  Calls Tryz.prog 57 #[.int .i64 y, .bool c] w fun e w' => e = .returned (.bool (Rc.wyB c y)) /\ Gr w w' := by
 have HW : Hid (∀ w' : World, Calls Tryz.prog 27 #[.int .i64 y, .int .i64 1, .int .i64 9] w' fun e w2 => e = .returned (.bool (Rc.inB y 1 9)) /\ w2 = w') := fun w' => within_rc y 1 9 w'
 have HE : Hid (∀ (w' : World) (g : Nat), w'.cell? ⟨g, 0, none⟩ = some (.int .i64 y) -> Calls Tryz.prog 63 #[.slice (some ⟨g, 0, none⟩) 1 1] w' fun e w2 => e = .returned (.bool (decide (y = 0))) /\ w2 = w') := fun w' g h => emptyI1 y g w' h
 unfold Rc.wyB
 cases c with
 | false =>
  rw [if_neg (by decide)]
  go_enter Tryz.func57, Tryz.ntmps57
  go_wp2_with fail
  refine (HE.out _ _ ?_).mono ?_
  ·exact (World.cell?_alloc_at _ _ _ _ (by simp)).trans rfl
  rintro e1 w1 ⟨rfl, hw1⟩; obtain rfl := hw1.symm
  go_wp2
  go_ret
  exact ⟨rfl, (by repeat(first|exact Gr.r _|refine Gr.a ?_|refine Gr.d ?_|refine Gr.t ?_ (by assumption)))⟩
 | true =>
  rw [if_pos rfl]
  go_enter Tryz.func57, Tryz.ntmps57
  go_wp2_with fail
  refine (HW.out _).mono ?_
  rintro e1 w1 ⟨rfl, hw1⟩; obtain rfl := hw1.symm
  go_wp2
  go_ret
  exact ⟨rfl, (by repeat(first|exact Gr.r _|refine Gr.a ?_|refine Gr.d ?_|refine Gr.t ?_ (by assumption)))⟩

theorem stepFits_any (s c : Int) (w : World) (h0 : 0 <= c) (h9 : c <= 100) :
  Calls Tryz.prog 58 #[.int .i64 s, .int .i64 c] w fun e w' => e = .returned (.bool (Rc.stB c s)) /\ Gr w w' := by
 have HW : Hid (∀ w' : World, Calls Tryz.prog 27 #[.int .i64 s, .int .i64 0, .int .i64 (c - 1)] w' fun e w2 => e = .returned (.bool (Rc.inB s 0 (c - 1))) /\ w2 = w') := fun w' => within_rc s 0 (c - 1) w'
 have HE : Hid (∀ (w' : World) (g : Nat), w'.cell? ⟨g, 0, none⟩ = some (.int .i64 s) -> Calls Tryz.prog 63 #[.slice (some ⟨g, 0, none⟩) 1 1] w' fun e w2 => e = .returned (.bool (decide (s = 0))) /\ w2 = w') := fun w' g h => emptyI1 s g w' h
 have hw : IntKind.i64.wrap (c - 1) = c - 1 := by rw [IntKind.wrap_i64]; omega
 unfold Rc.stB
 by_cases hc : 0 < c
 ·rw [if_pos hc]
  go_enter Tryz.func58, Tryz.ntmps58
  go_wp2_with fail
  refine (HW.out _).mono ?_
  rintro e1 w1 ⟨rfl, hw1⟩; obtain rfl := hw1.symm
  go_wp2
  go_ret
  exact ⟨rfl, (by repeat(first|exact Gr.r _|refine Gr.a ?_|refine Gr.d ?_|refine Gr.t ?_ (by assumption)))⟩
 ·rw [if_neg hc]
  go_enter Tryz.func58, Tryz.ntmps58
  go_wp2_with fail
  refine (HE.out _ _ ?_).mono ?_
  ·exact (World.cell?_alloc_at _ _ _ _ (by simp)).trans rfl
  rintro e1 w1 ⟨rfl, hw1⟩; obtain rfl := hw1.symm
  go_wp2
  go_ret
  exact ⟨rfl, (by repeat(first|exact Gr.r _|refine Gr.a ?_|refine Gr.d ?_|refine Gr.t ?_ (by assumption)))⟩

theorem isOf_any (k r n : Int) (L : List (Int × Int)) (s y : Int) (d : ByteArray) (S : List Stp) (a1 : Option Addr) (c1 : Nat) (a2 : Option Addr) (c2 : Nat) (wd : ByteArray) (cb db wb : Bool) (st : Int) (w : World) (h : MvIn w (⟨k, r, n, L, s, y, d, S⟩ : Mv) a1 c1 a2 c2) (h0 : 0 <= st) (h9 : st <= 100) :
  Calls Tryz.prog 28 #[.agg #[.int .i64 k, .int .i64 r, .int .i64 n, .slice a1 L.length c1, .int .i64 s, .int .i64 y, .string d, .slice a2 S.length c2], .agg #[.string wd, .bool cb, .bool db, .bool wb, .int .i64 st]] w fun e w' => e = .returned (.bool (Idn.mayB r n L && (!cb || decide (0 < L.length)) && Rc.dfB db d S && Rc.wyB wb y && Rc.stB st s)) /\ Gr w w' := by
 have H1 : Hid (∀ w', Gr w w' -> Calls Tryz.prog 55 #[.agg #[.int .i64 r, .int .i64 n, .slice a1 L.length c1], .bool cb] w' fun e w2 => e = .returned (.bool (Idn.mayB r n L && (!cb || decide (0 < L.length)))) /\ Gr w' w2) := fun w' g => idFits_any r n L a1 c1 cb w' (h.hops.gr g) h.nL
 have H2 : Hid (∀ w', Gr w w' -> Calls Tryz.prog 56 #[.agg #[.string d, .slice a2 S.length c2], .bool db] w' fun e w2 => e = .returned (.bool (Rc.dfB db d S)) /\ Gr w' w2) := fun w' g => defFits_any d S a2 c2 db w' (h.stps.gr g) h.nd h.nS h.inS
 have H3 : Hid (∀ w', Gr w w' -> Calls Tryz.prog 57 #[.int .i64 y, .bool wb] w' fun e w2 => e = .returned (.bool (Rc.wyB wb y)) /\ Gr w' w2) := fun w' _ => whyFits_any y wb w'
 have H4 : Hid (∀ w', Gr w w' -> Calls Tryz.prog 58 #[.int .i64 s, .int .i64 st] w' fun e w2 => e = .returned (.bool (Rc.stB st s)) /\ Gr w' w2) := fun w' _ => stepFits_any s st w' h0 h9
 generalize (Idn.mayB r n L && (!cb || decide (0 < L.length))) = b1 at *
 generalize Rc.dfB db d S = b2 at *
 generalize Rc.wyB wb y = b3 at *
 generalize Rc.stB st s = b4 at *
 clear h h0 h9
 cases b1 with
 | false =>
  go_enter Tryz.func28, Tryz.ntmps28
  go_wp2_with fail
  refine (H1.out _ ?_).mono ?_
  ·exact (by repeat(first|exact Gr.r _|refine Gr.a ?_|refine Gr.d ?_|refine Gr.t ?_ (by assumption)))
  rintro e1 w1 ⟨rfl, hg1⟩
  have G1 : Gr w w1 := (by repeat(first|exact Gr.r _|refine Gr.a ?_|refine Gr.d ?_|refine Gr.t ?_ (by assumption)))
  have Bc1 : Cs w1 (w.heap.size) _ := (Cs.new w _ _ _ rfl).alloc.gr hg1
  have Bf1 : Cs w1 (w.heap.size + 1) _ := (Cs.new _ _ _ _ (by simp; try rfl)).gr hg1
  obtain ⟨c0, c1, c2, c3, c4, c5, c6, c7, clt⟩ := Bc1.c8
  obtain ⟨f0, f1, f2, f3, f4, flt⟩ := Bf1.c5
  clear hg1
  go_wp2
  go_ret
  exact ⟨rfl, G1⟩
 | true =>
  cases b2 with
  | false =>
   go_enter Tryz.func28, Tryz.ntmps28
   go_wp2_with fail
   refine (H1.out _ ?_).mono ?_
   ·exact (by repeat(first|exact Gr.r _|refine Gr.a ?_|refine Gr.d ?_|refine Gr.t ?_ (by assumption)))
   rintro e1 w1 ⟨rfl, hg1⟩
   have G1 : Gr w w1 := (by repeat(first|exact Gr.r _|refine Gr.a ?_|refine Gr.d ?_|refine Gr.t ?_ (by assumption)))
   have Bc1 : Cs w1 (w.heap.size) _ := (Cs.new w _ _ _ rfl).alloc.gr hg1
   have Bf1 : Cs w1 (w.heap.size + 1) _ := (Cs.new _ _ _ _ (by simp; try rfl)).gr hg1
   obtain ⟨c0, c1, c2, c3, c4, c5, c6, c7, clt⟩ := Bc1.c8
   obtain ⟨f0, f1, f2, f3, f4, flt⟩ := Bf1.c5
   clear hg1
   go_wp2_with fail
   refine (H2.out _ G1).mono ?_
   rintro e2 w2 ⟨rfl, hg2⟩
   have G2 : Gr w w2 := G1.trans hg2
   have Bc2 := Bc1.gr hg2
   have Bf2 := Bf1.gr hg2
   clear c0 c1 c2 c3 c4 c5 c6 c7 f0 f1 f2 f3 f4 clt flt
   obtain ⟨c0, c1, c2, c3, c4, c5, c6, c7, clt⟩ := Bc2.c8
   obtain ⟨f0, f1, f2, f3, f4, flt⟩ := Bf2.c5
   clear hg2
   go_wp2
   go_ret
   exact ⟨rfl, G2⟩
  | true =>
   cases b3 with
   | false =>
    go_enter Tryz.func28, Tryz.ntmps28
    go_wp2_with fail
    refine (H1.out _ ?_).mono ?_
    ·exact (by repeat(first|exact Gr.r _|refine Gr.a ?_|refine Gr.d ?_|refine Gr.t ?_ (by assumption)))
    rintro e1 w1 ⟨rfl, hg1⟩
    have G1 : Gr w w1 := (by repeat(first|exact Gr.r _|refine Gr.a ?_|refine Gr.d ?_|refine Gr.t ?_ (by assumption)))
    have Bc1 : Cs w1 (w.heap.size) _ := (Cs.new w _ _ _ rfl).alloc.gr hg1
    have Bf1 : Cs w1 (w.heap.size + 1) _ := (Cs.new _ _ _ _ (by simp; try rfl)).gr hg1
    obtain ⟨c0, c1, c2, c3, c4, c5, c6, c7, clt⟩ := Bc1.c8
    obtain ⟨f0, f1, f2, f3, f4, flt⟩ := Bf1.c5
    clear hg1
    go_wp2_with fail
    refine (H2.out _ G1).mono ?_
    rintro e2 w2 ⟨rfl, hg2⟩
    have G2 : Gr w w2 := G1.trans hg2
    have Bc2 := Bc1.gr hg2
    have Bf2 := Bf1.gr hg2
    clear c0 c1 c2 c3 c4 c5 c6 c7 f0 f1 f2 f3 f4 clt flt
    obtain ⟨c0, c1, c2, c3, c4, c5, c6, c7, clt⟩ := Bc2.c8
    obtain ⟨f0, f1, f2, f3, f4, flt⟩ := Bf2.c5
    clear hg2
    go_wp2_with fail
    refine (H3.out _ G2).mono ?_
    rintro e3 w3 ⟨rfl, hg3⟩
    have G3 : Gr w w3 := G2.trans hg3
    have Bc3 := Bc2.gr hg3
    have Bf3 := Bf2.gr hg3
    clear c0 c1 c2 c3 c4 c5 c6 c7 f0 f1 f2 f3 f4 clt flt
    obtain ⟨c0, c1, c2, c3, c4, c5, c6, c7, clt⟩ := Bc3.c8
    obtain ⟨f0, f1, f2, f3, f4, flt⟩ := Bf3.c5
    clear hg3
    go_wp2
    go_ret
    exact ⟨rfl, G3⟩
   | true =>
    go_enter Tryz.func28, Tryz.ntmps28
    go_wp2_with fail
    refine (H1.out _ ?_).mono ?_
    ·exact (by repeat(first|exact Gr.r _|refine Gr.a ?_|refine Gr.d ?_|refine Gr.t ?_ (by assumption)))
    rintro e1 w1 ⟨rfl, hg1⟩
    have G1 : Gr w w1 := (by repeat(first|exact Gr.r _|refine Gr.a ?_|refine Gr.d ?_|refine Gr.t ?_ (by assumption)))
    have Bc1 : Cs w1 (w.heap.size) _ := (Cs.new w _ _ _ rfl).alloc.gr hg1
    have Bf1 : Cs w1 (w.heap.size + 1) _ := (Cs.new _ _ _ _ (by simp; try rfl)).gr hg1
    obtain ⟨c0, c1, c2, c3, c4, c5, c6, c7, clt⟩ := Bc1.c8
    obtain ⟨f0, f1, f2, f3, f4, flt⟩ := Bf1.c5
    clear hg1
    go_wp2_with fail
    refine (H2.out _ G1).mono ?_
    rintro e2 w2 ⟨rfl, hg2⟩
    have G2 : Gr w w2 := G1.trans hg2
    have Bc2 := Bc1.gr hg2
    have Bf2 := Bf1.gr hg2
    clear c0 c1 c2 c3 c4 c5 c6 c7 f0 f1 f2 f3 f4 clt flt
    obtain ⟨c0, c1, c2, c3, c4, c5, c6, c7, clt⟩ := Bc2.c8
    obtain ⟨f0, f1, f2, f3, f4, flt⟩ := Bf2.c5
    clear hg2
    go_wp2_with fail
    refine (H3.out _ G2).mono ?_
    rintro e3 w3 ⟨rfl, hg3⟩
    have G3 : Gr w w3 := G2.trans hg3
    have Bc3 := Bc2.gr hg3
    have Bf3 := Bf2.gr hg3
    clear c0 c1 c2 c3 c4 c5 c6 c7 f0 f1 f2 f3 f4 clt flt
    obtain ⟨c0, c1, c2, c3, c4, c5, c6, c7, clt⟩ := Bc3.c8
    obtain ⟨f0, f1, f2, f3, f4, flt⟩ := Bf3.c5
    clear hg3
    go_wp2_with fail
    refine (H4.out _ G3).mono ?_
    rintro e4 w4 ⟨rfl, hg4⟩
    have G4 : Gr w w4 := G3.trans hg4
    have Bc4 := Bc3.gr hg4
    have Bf4 := Bf3.gr hg4
    clear c0 c1 c2 c3 c4 c5 c6 c7 f0 f1 f2 f3 f4 clt flt
    obtain ⟨c0, c1, c2, c3, c4, c5, c6, c7, clt⟩ := Bc4.c8
    obtain ⟨f0, f1, f2, f3, f4, flt⟩ := Bf4.c5
    clear hg4
    go_wp2
    go_ret
    exact ⟨rfl, G4⟩

theorem move_any (k r n : Int) (L : List (Int × Int)) (s y : Int) (d : ByteArray) (S : List Stp) (a1 : Option Addr) (e1 : Nat) (a2 : Option Addr) (e2 : Nat) (w : World) (h : MvIn w (⟨k, r, n, L, s, y, d, S⟩ : Mv) a1 e1 a2 e2) (hF : Forms w) :
  Calls Tryz.prog 12 #[.agg #[.int .i64 k, .int .i64 r, .int .i64 n, .slice a1 L.length e1, .int .i64 s, .int .i64 y, .string d, .slice a2 S.length e2]] w fun e w' => e = .returned (.int .i64 (Rc.mvE (⟨k, r, n, L, s, y, d, S⟩ : Mv))) /\ Gr w w' := by
 have HW : Hid (∀ w' : World, Calls Tryz.prog 27 #[.int .i64 k, .int .i64 1, .int .i64 16] w' fun e w2 => e = .returned (.bool (Rc.inB k 1 16)) /\ w2 = w') := fun w' => within_rc k 1 16 w'
 have HM : Hid (Rc.mvE (⟨k, r, n, L, s, y, d, S⟩ : Mv) = if (Rc.inB k 1 16 && Rc.mvF (⟨k, r, n, L, s, y, d, S⟩ : Mv)) = true then 0 else 140) := rfl
 generalize Rc.mvE (⟨k, r, n, L, s, y, d, S⟩ : Mv) = R at *
 have B0 := Cs.new w [.int .i64 k, .int .i64 r, .int .i64 n, .slice a1 L.length e1, .int .i64 s, .int .i64 y, .string d, .slice a2 S.length e2] 29 _ rfl
 have c0 := B0.at_ 0 _ rfl
 have c1 := B0.at_ 1 _ rfl
 have c2 := B0.at_ 2 _ rfl
 have c3 := B0.at_ 3 _ rfl
 have c4 := B0.at_ 4 _ rfl
 have c5 := B0.at_ 5 _ rfl
 have c6 := B0.at_ 6 _ rfl
 have c7 := B0.at_ 7 _ rfl
 have clt := B0.lt
 cases hb : Rc.inB k 1 16 with
 | false =>
  rw [hb] at HW HM
  obtain rfl : R = 140 := HM.out
  clear h hF hb B0
  go_enter Tryz.func12, Tryz.ntmps12
  go_wp2
  go_quiet ((go_at_call 27; exact Calls.quiet_of_same (HW.out _)))
  all_goals go_wp2
  all_goals go_ret
  all_goals exact ⟨rfl, (Gr.refl w).alloc.trans ⟨below_drewN (Below.refl _ _) _⟩⟩
 | true =>
  obtain ⟨k1, k16⟩ := Rc.inB_iff.1 hb
  rw [hb, Bool.true_and] at HM
  rw [hb] at HW
  have HO : Hid (∀ w', Gr w w' -> Calls Tryz.prog 21 #[.int .i64 k] w' fun e w2 => e = .returned (.agg (frC k).toArray) /\ Gr w' w2) := fun w' g => formOf_any k w' k1 k16 (hF.gr g)
  have HI : Hid (∀ w', Gr w w' -> Calls Tryz.prog 28 #[.agg #[.int .i64 k, .int .i64 r, .int .i64 n, .slice a1 L.length e1, .int .i64 s, .int .i64 y, .string d, .slice a2 S.length e2], .agg (frC k).toArray] w' fun e w2 => e = .returned (.bool (Rc.mvF (⟨k, r, n, L, s, y, d, S⟩ : Mv))) /\ Gr w' w2) := fun w' g => isOf_any k r n L s y d S a1 e1 a2 e2 _ _ _ _ _ w' (h.gr g) (by have := Rc.stK_rng k; omega) (by have := Rc.stK_rng k; omega)
  generalize Rc.mvF (⟨k, r, n, L, s, y, d, S⟩ : Mv) = bF at *
  unfold frC at HO HI
  generalize Rc.wordL k = wd at *
  generalize decide (k = 2) = cb at *
  generalize decide (k = 1) = db at *
  generalize Rc.wyK k = wb at *
  generalize Rc.stK k = st at *
  clear h hF hb B0 k1 k16
  cases bF with
  | false =>
   obtain rfl : R = 140 := HM.out
   go_enter Tryz.func12, Tryz.ntmps12
   go_wp2
   go_region_held3 (fun w' => Gr (w.alloc (.cells (#[.int .i64 k, .int .i64 r, .int .i64 n, .slice a1 L.length e1, .int .i64 s, .int .i64 y, .string d, .slice a2 S.length e2] : Array Value) 29)) w' /\ w'.cell? ⟨w.heap.size, 0, none⟩ = some (.int .i64 k) /\ w'.cell? ⟨w.heap.size, 1, none⟩ = some (.int .i64 r) /\ w'.cell? ⟨w.heap.size, 2, none⟩ = some (.int .i64 n) /\ w'.cell? ⟨w.heap.size, 3, none⟩ = some (.slice a1 L.length e1) /\ w'.cell? ⟨w.heap.size, 4, none⟩ = some (.int .i64 s) /\ w'.cell? ⟨w.heap.size, 5, none⟩ = some (.int .i64 y) /\ w'.cell? ⟨w.heap.size, 6, none⟩ = some (.string d) /\ w'.cell? ⟨w.heap.size, 7, none⟩ = some (.slice a2 S.length e2))
    ((go_split_ands; exact ⟨(by repeat(first|exact Gr.r _|refine Gr.a ?_|refine Gr.d ?_|refine Gr.t ?_ (by assumption))), Gr.keep (W := (w.alloc (.cells (#[.int .i64 k, .int .i64 r, .int .i64 n, .slice a1 L.length e1, .int .i64 s, .int .i64 y, .string d, .slice a2 S.length e2] : Array Value) 29))) (by repeat(first|exact Gr.r _|refine Gr.a ?_|refine Gr.d ?_|refine Gr.t ?_ (by assumption))) c0, Gr.keep (W := (w.alloc (.cells (#[.int .i64 k, .int .i64 r, .int .i64 n, .slice a1 L.length e1, .int .i64 s, .int .i64 y, .string d, .slice a2 S.length e2] : Array Value) 29))) (by repeat(first|exact Gr.r _|refine Gr.a ?_|refine Gr.d ?_|refine Gr.t ?_ (by assumption))) c1, Gr.keep (W := (w.alloc (.cells (#[.int .i64 k, .int .i64 r, .int .i64 n, .slice a1 L.length e1, .int .i64 s, .int .i64 y, .string d, .slice a2 S.length e2] : Array Value) 29))) (by repeat(first|exact Gr.r _|refine Gr.a ?_|refine Gr.d ?_|refine Gr.t ?_ (by assumption))) c2, Gr.keep (W := (w.alloc (.cells (#[.int .i64 k, .int .i64 r, .int .i64 n, .slice a1 L.length e1, .int .i64 s, .int .i64 y, .string d, .slice a2 S.length e2] : Array Value) 29))) (by repeat(first|exact Gr.r _|refine Gr.a ?_|refine Gr.d ?_|refine Gr.t ?_ (by assumption))) c3, Gr.keep (W := (w.alloc (.cells (#[.int .i64 k, .int .i64 r, .int .i64 n, .slice a1 L.length e1, .int .i64 s, .int .i64 y, .string d, .slice a2 S.length e2] : Array Value) 29))) (by repeat(first|exact Gr.r _|refine Gr.a ?_|refine Gr.d ?_|refine Gr.t ?_ (by assumption))) c4, Gr.keep (W := (w.alloc (.cells (#[.int .i64 k, .int .i64 r, .int .i64 n, .slice a1 L.length e1, .int .i64 s, .int .i64 y, .string d, .slice a2 S.length e2] : Array Value) 29))) (by repeat(first|exact Gr.r _|refine Gr.a ?_|refine Gr.d ?_|refine Gr.t ?_ (by assumption))) c5, Gr.keep (W := (w.alloc (.cells (#[.int .i64 k, .int .i64 r, .int .i64 n, .slice a1 L.length e1, .int .i64 s, .int .i64 y, .string d, .slice a2 S.length e2] : Array Value) 29))) (by repeat(first|exact Gr.r _|refine Gr.a ?_|refine Gr.d ?_|refine Gr.t ?_ (by assumption))) c6, Gr.keep (W := (w.alloc (.cells (#[.int .i64 k, .int .i64 r, .int .i64 n, .slice a1 L.length e1, .int .i64 s, .int .i64 y, .string d, .slice a2 S.length e2] : Array Value) 29))) (by repeat(first|exact Gr.r _|refine Gr.a ?_|refine Gr.d ?_|refine Gr.t ?_ (by assumption))) c7⟩))
    ((first
     | (go_at_call 27; refine (HW.out _).mono ?_; rintro e w1 ⟨rfl, hw1⟩; obtain rfl := hw1.symm; go_split_ands)
     | (go_at_call 21; refine (HO.out _ ?_).mono ?_; (go_split_ands; exact (Gr.refl w).alloc.trans (by repeat(first|exact Gr.r _|refine Gr.a ?_|refine Gr.d ?_|refine Gr.t ?_ (by assumption)))); rintro e w2 ⟨rfl, hg2⟩; go_split_ands)
     | (go_at_call 28; refine (HI.out _ ?_).mono ?_; (go_split_ands; exact (Gr.refl w).alloc.trans (by repeat(first|exact Gr.r _|refine Gr.a ?_|refine Gr.d ?_|refine Gr.t ?_ (by assumption)))); rintro e w3 ⟨rfl, hg3⟩; go_split_ands)))
   all_goals go_wp2
   all_goals go_ret
   all_goals exact ⟨rfl, (Gr.refl w).alloc.trans (by repeat(first|exact Gr.r _|refine Gr.a ?_|refine Gr.d ?_|refine Gr.t ?_ (by assumption)))⟩
  | true =>
   obtain rfl : R = 0 := HM.out
   go_enter Tryz.func12, Tryz.ntmps12
   go_wp2
   go_region_held3 (fun w' => Gr (w.alloc (.cells (#[.int .i64 k, .int .i64 r, .int .i64 n, .slice a1 L.length e1, .int .i64 s, .int .i64 y, .string d, .slice a2 S.length e2] : Array Value) 29)) w' /\ w'.cell? ⟨w.heap.size, 0, none⟩ = some (.int .i64 k) /\ w'.cell? ⟨w.heap.size, 1, none⟩ = some (.int .i64 r) /\ w'.cell? ⟨w.heap.size, 2, none⟩ = some (.int .i64 n) /\ w'.cell? ⟨w.heap.size, 3, none⟩ = some (.slice a1 L.length e1) /\ w'.cell? ⟨w.heap.size, 4, none⟩ = some (.int .i64 s) /\ w'.cell? ⟨w.heap.size, 5, none⟩ = some (.int .i64 y) /\ w'.cell? ⟨w.heap.size, 6, none⟩ = some (.string d) /\ w'.cell? ⟨w.heap.size, 7, none⟩ = some (.slice a2 S.length e2))
    ((go_split_ands; exact ⟨(by repeat(first|exact Gr.r _|refine Gr.a ?_|refine Gr.d ?_|refine Gr.t ?_ (by assumption))), Gr.keep (W := (w.alloc (.cells (#[.int .i64 k, .int .i64 r, .int .i64 n, .slice a1 L.length e1, .int .i64 s, .int .i64 y, .string d, .slice a2 S.length e2] : Array Value) 29))) (by repeat(first|exact Gr.r _|refine Gr.a ?_|refine Gr.d ?_|refine Gr.t ?_ (by assumption))) c0, Gr.keep (W := (w.alloc (.cells (#[.int .i64 k, .int .i64 r, .int .i64 n, .slice a1 L.length e1, .int .i64 s, .int .i64 y, .string d, .slice a2 S.length e2] : Array Value) 29))) (by repeat(first|exact Gr.r _|refine Gr.a ?_|refine Gr.d ?_|refine Gr.t ?_ (by assumption))) c1, Gr.keep (W := (w.alloc (.cells (#[.int .i64 k, .int .i64 r, .int .i64 n, .slice a1 L.length e1, .int .i64 s, .int .i64 y, .string d, .slice a2 S.length e2] : Array Value) 29))) (by repeat(first|exact Gr.r _|refine Gr.a ?_|refine Gr.d ?_|refine Gr.t ?_ (by assumption))) c2, Gr.keep (W := (w.alloc (.cells (#[.int .i64 k, .int .i64 r, .int .i64 n, .slice a1 L.length e1, .int .i64 s, .int .i64 y, .string d, .slice a2 S.length e2] : Array Value) 29))) (by repeat(first|exact Gr.r _|refine Gr.a ?_|refine Gr.d ?_|refine Gr.t ?_ (by assumption))) c3, Gr.keep (W := (w.alloc (.cells (#[.int .i64 k, .int .i64 r, .int .i64 n, .slice a1 L.length e1, .int .i64 s, .int .i64 y, .string d, .slice a2 S.length e2] : Array Value) 29))) (by repeat(first|exact Gr.r _|refine Gr.a ?_|refine Gr.d ?_|refine Gr.t ?_ (by assumption))) c4, Gr.keep (W := (w.alloc (.cells (#[.int .i64 k, .int .i64 r, .int .i64 n, .slice a1 L.length e1, .int .i64 s, .int .i64 y, .string d, .slice a2 S.length e2] : Array Value) 29))) (by repeat(first|exact Gr.r _|refine Gr.a ?_|refine Gr.d ?_|refine Gr.t ?_ (by assumption))) c5, Gr.keep (W := (w.alloc (.cells (#[.int .i64 k, .int .i64 r, .int .i64 n, .slice a1 L.length e1, .int .i64 s, .int .i64 y, .string d, .slice a2 S.length e2] : Array Value) 29))) (by repeat(first|exact Gr.r _|refine Gr.a ?_|refine Gr.d ?_|refine Gr.t ?_ (by assumption))) c6, Gr.keep (W := (w.alloc (.cells (#[.int .i64 k, .int .i64 r, .int .i64 n, .slice a1 L.length e1, .int .i64 s, .int .i64 y, .string d, .slice a2 S.length e2] : Array Value) 29))) (by repeat(first|exact Gr.r _|refine Gr.a ?_|refine Gr.d ?_|refine Gr.t ?_ (by assumption))) c7⟩))
    ((first
     | (go_at_call 27; refine (HW.out _).mono ?_; rintro e w1 ⟨rfl, hw1⟩; obtain rfl := hw1.symm; go_split_ands)
     | (go_at_call 21; refine (HO.out _ ?_).mono ?_; (go_split_ands; exact (Gr.refl w).alloc.trans (by repeat(first|exact Gr.r _|refine Gr.a ?_|refine Gr.d ?_|refine Gr.t ?_ (by assumption)))); rintro e w2 ⟨rfl, hg2⟩; go_split_ands)
     | (go_at_call 28; refine (HI.out _ ?_).mono ?_; (go_split_ands; exact (Gr.refl w).alloc.trans (by repeat(first|exact Gr.r _|refine Gr.a ?_|refine Gr.d ?_|refine Gr.t ?_ (by assumption)))); rintro e w3 ⟨rfl, hg3⟩; go_split_ands)))
   all_goals go_wp2
   all_goals go_ret
   all_goals exact ⟨rfl, (Gr.refl w).alloc.trans (by repeat(first|exact Gr.r _|refine Gr.a ?_|refine Gr.d ?_|refine Gr.t ?_ (by assumption)))⟩
end Go.Proofs.YthaadiclopoamaaGreatDoor
/- The document's Equal of definitions. -/
set_option maxRecDepth 100000
set_option maxHeartbeats 8000000
namespace Go.Proofs.YthaadiclopoamaaGreatDoor
open Go.RowKit
open Df (Stp)

def eqD (n1 : ByteArray) (L : List Stp) (n2 : ByteArray) (M : List Stp) : Bool := decide (n1 = n2) && eqL L M

theorem refEqual_any (n1 : ByteArray) (L : List Stp) (ad1 : Option Addr) (c1 : Nat) (n2 : ByteArray) (M : List Stp) (ad2 : Option Addr) (c2 : Nat) (w : World) (h1 : StpsAt w ad1 L) (h2 : StpsAt w ad2 M) (hn1 : L.length <= 9223372036854775807) :
  Calls Tryz.prog 52 #[.agg #[.string n1, .slice ad1 L.length c1], .agg #[.string n2, .slice ad2 M.length c2]] w fun e w' => e = .returned (.bool (eqD n1 L n2 M)) /\ Gr w w' := by
 have ht := text_ne n1 n2.data.toList
 rw [Lex.bytes_list, <- show n2.toList = n2.data.toList from ByteArray.toList_eq n2] at ht
 have HX0 := Lib.hid ((TwoAt.new w (.string n1) (.slice ad1 L.length c1) 27 _ rfl).gr (Gr.refl _).alloc (w' := (w.alloc (.cells #[.string n1, .slice ad1 L.length c1] 27)).alloc (.cells #[.string n2, .slice ad2 M.length c2] 27)))
 have HY0 := Lib.hid (TwoAt.new (w.alloc (.cells #[.string n1, .slice ad1 L.length c1] 27)) (.string n2) (.slice ad2 M.length c2) 27 (w.heap.size + 1) (by simp))
 by_cases hq : n1 = n2
 ·rw [decide_eq_true hq] at ht
  have ht2 : (n1.toList != n2.toList) = false := ht
  have ht3 : (n1.toList == n2.toList) = true := by simpa using ht2
  have ED : eqD n1 L n2 M = eqL L M := by unfold eqD; rw [decide_eq_true hq]; rfl
  rw [ED]
  clear ht hq ED
  by_cases hl : L.length = M.length
  ·have H1 : Hid (StpsAt w ad1 L) := h1
   have H2 : Hid (StpsAt w ad2 M) := h2
   have HL : Hid (L.length = M.length) := hl
   have hl2 : ((L.length : Int) != (M.length : Int)) = false := by simp; omega
   have HY : Hid ((∀ j (h1 : j < L.length) (h2 : j < M.length), eqS L[j] M[j] = true) -> eqL L M = true) := eqL_yes hl
   have HN : Hid (∀ j (h1 : j < L.length) (h2 : j < M.length), eqS L[j] M[j] = false -> eqL L M = false) := fun j => eqL_no j
   have HG0 : Hid (Gr w ((w.alloc (.cells #[.string n1, .slice ad1 L.length c1] 27)).alloc (.cells #[.string n2, .slice ad2 M.length c2] 27))) := (Gr.refl _).alloc.alloc
   generalize eqL L M = EL at *
   clear h1 h2 hl
   go_enter Tryz.func52, Tryz.ntmps52
   go_wp2
   go_loopw [5] (fun i wr => ∃ k : Nat, k <= L.length /\ i = .int .i64 (k : Int) /\ Gr w wr /\ TwoAt wr w.heap.size (.string n1) (.slice ad1 L.length c1) /\ TwoAt wr (w.heap.size + 1) (.string n2) (.slice ad2 M.length c2) /\ ∀ j (h1 : j < L.length) (h2 : j < M.length), j < k -> eqS L[j] M[j] = true) (fun i _ => L.length - (intOf i).toNat)
   case atStart => exact ⟨0, by omega, rfl, HG0.out, HX0.out, HY0.out, fun j _ _ h => absurd h (by omega)⟩
   case round =>
    obtain ⟨k, hk, rfl, hg, hX, hYb, hA⟩ := hrel
    have HG : Hid (Gr w wr) := hg
    have HXw := Lib.hid hX
    have HYw := Lib.hid hYb
    have HA : Hid (∀ j (h1 : j < L.length) (h2 : j < M.length), j < k -> eqS L[j] M[j] = true) := hA
    obtain ⟨u0, u1, _, _, ul⟩ := hX
    obtain ⟨v0, v1, _, _, vl⟩ := hYb
    clear hg hA
    by_cases hlt : k < L.length
    ·have hltM : k < M.length := by have := HL.out; omega
     obtain ⟨b, off, rfl, hb, x0, x1, x2, x3, x4, x5, x6⟩ := StpsAt.at (H1.out.gr HG.out) k hlt
     obtain ⟨b', off', rfl, hb', y0, y1, y2, y3, y4, y5, y6⟩ := StpsAt.at (H2.out.gr HG.out) k hltM
     have hne := neq_stp L[k] M[k]
     have HE := HN.out k hlt hltM
     generalize hx : L[k] = x at *
     generalize hy : M[k] = y at *
     obtain ⟨xk, xa, xn, xo, xu, xy, xv⟩ := x
     obtain ⟨yk, ya, yn, yo, yu, yy, yv⟩ := y
     simp only at *
     cases hq : eqS ⟨xk, xa, xn, xo, xu, xy, xv⟩ ⟨yk, ya, yn, yo, yu, yy, yv⟩ with
     | true =>
      rw [hq] at hne
      have HQ : Hid (eqS L[k] M[k] = true) := by show _ = _; rw [hx, hy]; exact hq
      clear hq hx hy HE
      go_wp2
      go_quiet (fail)
      go_wp2
      go_roundw
      case rel => exact ⟨k + 1, by omega, by go_num, HG.out.trans ((Gr.refl _).drewN _), HXw.out.gr ((Gr.refl _).drewN _), HYw.out.gr ((Gr.refl _).drewN _), fun j h1 h2 h => if e : j = k then by subst e; exact HQ.out else HA.out j h1 h2 (by omega)⟩
      case measure => simp [intOf]; omega
     | false =>
      rw [hq] at hne
      have HF : Hid (EL = false) := HE hq
      clear hq hx hy HE
      go_wp2
      go_quiet (fail)
      go_wp2
      go_ret
      exact ⟨by rw [HF.out]; rfl, HG.out.trans ((Gr.refl _).drewN _)⟩
    ·obtain rfl : k = L.length := by omega
     have HF : Hid (EL = true) := HY.out (fun j h1 h2 => HA.out j h1 h2 h1)
     go_wp2
     go_ret
     exact ⟨by rw [HF.out]; rfl, HG.out⟩
  ·have hl2 : ((L.length : Int) != (M.length : Int)) = true := by simp; omega
   rw [eqL_len hl]
   clear h1 h2 hl
   go_enter Tryz.func52, Tryz.ntmps52
   go_wp2
   go_ret
   exact ⟨rfl, (by repeat(first|exact Gr.r _|refine Gr.a ?_|refine Gr.d ?_|refine Gr.t ?_ (by assumption)))⟩
 ·rw [decide_eq_false hq] at ht
  have ht2 : (n1.toList != n2.toList) = true := ht
  have ht3 : (n1.toList == n2.toList) = false := by simpa using ht2
  have ED : eqD n1 L n2 M = false := by unfold eqD; rw [decide_eq_false hq]; rfl
  rw [ED]
  clear ht hq ED h1 h2
  go_enter Tryz.func52, Tryz.ntmps52
  go_wp2
  go_ret
  exact ⟨rfl, (by repeat(first|exact Gr.r _|refine Gr.a ?_|refine Gr.d ?_|refine Gr.t ?_ (by assumption)))⟩
end Go.Proofs.YthaadiclopoamaaGreatDoor
