
/- disk: strings.Clone, own, first, put, Read. -/
import Derived.Test.YtpnlebegenkdkaaDkP
import Derived.Test.YtpnlebegenkdkaaShelf
import Derived.BigQuiet
namespace Go.Proofs.Ytpnlebegenkdkaa
open Go.RowKit Go.Maps
open Dk (Fl Fo St Ok Up zf emp used cutF one fallA kf)
variable {w w' : World} {b m : Nat} {A : Nat → Int} {s : St}

theorem wrap_in {n : Int} (h0 : -9223372036854775808 ≤ n) (h1 : n ≤ 9223372036854775807) : wrap64 n = n := by unfold wrap64; omega
set_option maxHeartbeats 400000 in
theorem clone_any (s : ByteArray) (w : World) (hs : s.size ≤ 140737488355328) : Calls Try.prog 43 #[.string s] w fun e w' => e = .returned (.string s) ∧ Gr w w' := by
  have HC : Hid (∀ w : World, Calls Try.prog 57 #[.string s] w fun e w' => e = .returned (.string s) ∧ Below w.heap.size w w') := fun w => Try.stringslite_Clone s w (by omega)
  go_enter Try.func43, Try.ntmps43
  go_wp2_with fail
  refine (HC.out _).mono ?_
  rintro e w1 ⟨rfl, hb⟩
  go_wp2
  go_ret
  exact ⟨rfl, ⟨hb⟩⟩
/- files that are the same -/
def eqF (x y : Fl) : Bool := decide (x.n = y.n) && decide (x.d = y.d) && decide (x.y = y.y)
theorem eqF_iff (x y : Fl) : eqF x y = true ↔ x = y := by
  unfold eqF
  simp only [Bool.and_eq_true, decide_eq_true_eq]
  constructor
  · rintro ⟨⟨h1, h2⟩, h3⟩
    exact Dk.Fl.ext' h1 h2 h3
  · rintro rfl; simp
theorem toL_eq (a b : ByteArray) : (a.toList = b.toList) ↔ a = b := by
  rw [ByteArray.toList_eq, ByteArray.toList_eq]
  refine ⟨fun h => ?_, fun h => by rw [h]⟩
  cases a; cases b
  congr 1
  exact Array.toList_inj.1 h
theorem eql_fl (x y : Fl) (W : World) : (binOp .eql 40 (flV x) (flV y)).run Try.prog W = .ok (.bool (eqF x y)) W := by
  unfold flV
  go_simp
  unfold eqF
  simp only [toL_eq]
  by_cases h1 : x.n = y.n <;> by_cases h2 : x.d = y.d <;> by_cases h3 : x.y = y.y <;> simp [h1, h2, h3]
theorem neq_fl (x y : Fl) (W : World) : (binOp .neq 40 (flV x) (flV y)).run Try.prog W = .ok (.bool (!eqF x y)) W := by
  unfold flV
  go_simp
  unfold eqF
  simp only [toL_eq]
  by_cases h1 : x.n = y.n <;> by_cases h2 : x.d = y.d <;> by_cases h3 : x.y = y.y <;> simp [h1, h2, h3]
theorem size_nil (d : ByteArray) : d = ⟨#[]⟩ ↔ d.size = 0 := by
  constructor
  · rintro rfl; rfl
  · intro h
    cases d with
    | mk a => congr 1; exact Array.size_eq_zero_iff.1 h
theorem emp_eq (f : Fl) : eqF f (zf f.n) = emp f := by
  unfold eqF emp
  by_cases h : f.d.size = 0
  · rw [decide_eq_true (show f.d = (zf f.n).d from (size_nil f.d).2 h), decide_eq_true h]
    simp
  · rw [decide_eq_false (show ¬ f.d = (zf f.n).d from fun e => h ((size_nil _).1 e)), decide_eq_false h]
    simp
set_option maxHeartbeats 1000000 in
set_option maxRecDepth 100000 in
theorem own_any (f : Fl) (w : World) (hs : f.d.size ≤ 140737488355328) : Calls Try.prog 41 #[flV f] w fun e w' => e = .returned (flV f) ∧ Gr w w' := by
  have HC : Hid (∀ w1 : World, Calls Try.prog 43 #[.string f.d] w1 fun e w' => e = .returned (.string f.d) ∧ Gr w1 w') := fun w1 => clone_any f.d w1 hs
  obtain ⟨n, d, y⟩ := f
  simp only at HC hs
  unfold flV
  go_enter Try.func41, Try.ntmps41
  go_wp2_with fail
  refine (HC.out _).mono ?_
  rintro e w1 ⟨rfl, hb⟩
  have b1 := (BoxAt.new w (.int .i64 n) (.string d) (.int .i64 y) 40 _ rfl).gr ((Gr.refl _).alloc (o := .cells #[.int .i64 0, .string ⟨#[]⟩, .int .i64 0] 40))
  have b2 := BoxAt.new (w.alloc (.cells #[.int .i64 n, .string d, .int .i64 y] 40)) (.int .i64 0) (.string ⟨#[]⟩) (.int .i64 0) 40 (w.heap.size + 1) (by simp)
  have b1' := b1.gr hb
  have b2' := b2.gr hb
  obtain ⟨c0, c1, c2, f0, f1, f2, _⟩ := b1'
  obtain ⟨d0, d1, d2, g0, g1, g2, _⟩ := b2'
  have hg : Gr w w1 := (Gr.refl w).alloc.alloc.trans hb
  clear b1 b2 hb HC
  go_wp2
  exact bodyPost_ret (v := .agg #[.int .i64 n, .string d, .int .i64 y]) (by simp [results, Try.results41, go_sem, *]) rfl ⟨rfl, (((hg.set _ (by simp) _).set _ (by simp) _).set _ (by simp) _).set _ (by simp) _⟩
set_option maxHeartbeats 1000000 in
set_option maxRecDepth 100000 in
theorem first_any (f : Fl) {k : Int} (w : World) (h0 : 0 ≤ k) (h1 : k ≤ f.d.size) (hs : f.d.size ≤ 140737488355328) : Calls Try.prog 48 #[flV f, .int .i64 k] w fun e w' => e = .returned (flV (Dk.fst f k)) ∧ Gr w w' := by
  obtain ⟨k, rfl⟩ : ∃ j : Nat, k = (j : Int) := ⟨k.toNat, by omega⟩
  have hk : Dk.fst f (k : Int) = ⟨f.n, f.d.extract 0 k, (k : Int)⟩ := rfl
  rw [hk]
  obtain ⟨n, d, y⟩ := f
  simp only at h1 hs hk ⊢
  have h1' : k ≤ d.size := by omega
  unfold flV
  clear hk
  go_enter Try.func48, Try.ntmps48
  go_wp2
  go_region
  go_wp2
  exact bodyPost_ret (v := .agg #[.int .i64 n, .string (d.extract 0 k), .int .i64 (k : Int)]) (by simp [results, Try.results48, go_sem]) rfl ⟨rfl, (by (repeat' (first | with_reducible exact Gr.refl _ | with_reducible refine Gr.set ?_ _ ?_ _ | with_reducible refine Gr.alloc ?_ | with_reducible refine Gr.drew ?_ | with_reducible refine Gr.trans ?_ (by assumption))) <;> (first | (simp; done) | (simp; omega) | omega))⟩
theorem put_res {w w2 : World} {o : Obj} (h : DAt w b m A s) (hg : (w.alloc o).drew.grownBy w2 (some m)) {L : List Fl} (hf : FilesAt w2 m L) (hk : Ok { s with L := L }) : DAt w2 b m A { s with L := L } ∧ Td w w2 b m :=
  ⟨(h.gr (Gr.refl w).alloc.drew).setFiles hg hf hk, (Td.gr (Gr.refl w).alloc.drew).trans (Td.of_grown hg)⟩
set_option maxHeartbeats 1000000 in
set_option maxRecDepth 100000 in
theorem put_ins {f : Fl} (h : DAt w b m A s) (he : emp f = false) (h0 : -9223372036854775808 ≤ f.n) (h1 : f.n ≤ 9223372036854775807) (hk : Ok { s with L := Dk.ins f s.L }) :
    Calls Try.prog 40 #[ptr b, flV f] w fun e w' => e = .returned (.tuple #[]) ∧ DAt w' b m A { s with L := Dk.ins f s.L } ∧ Td w w' b m := by
  have hm := (Gr.refl w).alloc.keep (w1 := w.alloc (.cells #[.int .i64 f.n, .string f.d, .int .i64 f.y] 40)) h.mp
  have hE : ∀ W, (binOp .eql 40 (.agg #[.int .i64 f.n, .string f.d, .int .i64 f.y]) (.agg #[.int .i64 f.n, .string ⟨#[]⟩, .int .i64 0])).run Try.prog W = .ok (.bool false) W := fun W => by have := eql_fl f (zf f.n) W; rw [emp_eq, he] at this; exact this
  obtain ⟨w2, hrun, hfl, hg, hs⟩ := (h.gr (Gr.refl w).alloc.drew (w' := (w.alloc (.cells #[.int .i64 f.n, .string f.d, .int .i64 f.y] 40)).drew)).fl.put h.ok.up (by have := h.ok.len; omega) h0 h1
  have HR := Lib.hid (put_res h hg hfl hk)
  clear h hg hfl hk he
  obtain ⟨n, d, y⟩ := f
  simp only at *
  go_enter Try.func40, Try.ntmps40
  go_wp2
  go_region
  go_wp2
  go_end0
  exact ⟨rfl, HR.out⟩
set_option maxHeartbeats 1000000 in
set_option maxRecDepth 100000 in
theorem put_del {f : Fl} (h : DAt w b m A s) (he : emp f = true) (hh : Dk.has s.L f.n = true) (h0 : -9223372036854775808 ≤ f.n) (h1 : f.n ≤ 9223372036854775807) (hk : Ok { s with L := Dk.del s.L f.n }) :
    Calls Try.prog 40 #[ptr b, flV f] w fun e w' => e = .returned (.tuple #[]) ∧ DAt w' b m A { s with L := Dk.del s.L f.n } ∧ Td w w' b m := by
  have hm := (Gr.refl w).alloc.keep (w1 := w.alloc (.cells #[.int .i64 f.n, .string f.d, .int .i64 f.y] 40)) h.mp
  have hE : ∀ W, (binOp .eql 40 (.agg #[.int .i64 f.n, .string f.d, .int .i64 f.y]) (.agg #[.int .i64 f.n, .string ⟨#[]⟩, .int .i64 0])).run Try.prog W = .ok (.bool true) W := fun W => by have := eql_fl f (zf f.n) W; rw [emp_eq, he] at this; exact this
  obtain ⟨w2, hrun, hfl, hg, hs⟩ := (h.gr (Gr.refl w).alloc.drew (w' := (w.alloc (.cells #[.int .i64 f.n, .string f.d, .int .i64 f.y] 40)).drew)).fl.drop h.ok.up hh h0 h1 0
  have HR := Lib.hid (put_res h hg hfl hk)
  clear h hg hfl hk he hh
  obtain ⟨n, d, y⟩ := f
  simp only at *
  go_enter Try.func40, Try.ntmps40
  go_wp2
  go_region
  go_wp2
  exact bodyPost_ret (results_none rfl _ _ _) rfl ⟨rfl, HR.out⟩
theorem put_any {f : Fl} (h : DAt w b m A s) (hd : emp f = true → Dk.has s.L f.n = true) (h0 : -9223372036854775808 ≤ f.n) (h1 : f.n ≤ 9223372036854775807) (hk : Ok { s with L := Dk.put f s.L }) :
    Calls Try.prog 40 #[ptr b, flV f] w fun e w' => e = .returned (.tuple #[]) ∧ DAt w' b m A { s with L := Dk.put f s.L } ∧ Td w w' b m := by
  unfold Dk.put at hk ⊢
  cases he : emp f with
  | true => rw [he] at hk; exact put_del h he (hd he) h0 h1 hk
  | false => rw [he] at hk; exact put_ins h he h0 h1 hk
set_option maxHeartbeats 1000000 in
set_option maxRecDepth 100000 in
theorem read_any (h : DAt w b m A s) {n : Int} (h0 : -9223372036854775808 ≤ n) (h1 : n ≤ 9223372036854775807) :
    Calls Try.prog 17 #[ptr b, .int .i64 n] w fun e w' => e = .returned (.tuple #[.string (fndF s n).d, .int .i64 (fndE s n)]) ∧ Gr w w' := by
  have hsz : (fndF s n).d.size ≤ 140737488355328 := by
    unfold fndF
    split
    · show (0 : Nat) ≤ _; omega
    · cases hh : Dk.has s.L n with
      | false => rw [Dk.get_not hh]; show (0 : Nat) ≤ _; omega
      | true =>
        have h5 := Dk.used_del h.ok.up hh
        have := h.ok.fits
        have := h.ok.r1
        omega
  have HF := Lib.hid (find_any h h0 h1)
  have HC : Hid (∀ w1 : World, Calls Try.prog 43 #[.string (fndF s n).d] w1 fun e w' => e = .returned (.string (fndF s n).d) ∧ Gr w1 w') := fun w1 => clone_any _ w1 hsz
  clear h hsz
  generalize fndF s n = f at *
  generalize fndE s n = k at *
  obtain ⟨fn, d, y⟩ := f
  simp only at *
  go_enter Try.func17, Try.ntmps17
  go_wp2_with fail
  refine HF.out.mono ?_
  rintro e w1 ⟨rfl, hg⟩
  go_wp2_with fail
  refine (HC.out _).mono ?_
  rintro e w2 ⟨rfl, hg2⟩
  go_wp2
  go_ret2
  exact ⟨rfl, hg.trans ((Gr.refl w1).alloc.trans hg2)⟩
end Go.Proofs.Ytpnlebegenkdkaa
