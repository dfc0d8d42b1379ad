/- Parts of these proofs, laid together. -/
import Derived.Test.YtojmhhmpmpbpfaaGreatDoorGI
import Derived.Test.YtojmhhmpmpbpfaaGreatDoorShelf
import Derived.BigQuiet
import Derived.Shelf.SlIterI.Nil
import Derived.Shelf.SortM.Plain
import Derived.Shelf.SortM.SortNone
namespace Go.Proofs.YtojmhhmpmpbpfaaGreatDoor
open Go.RowKit Go.Maps
open Dk (Fl Fo St Ok Up zf emp used cutF one fallA kf)
variable {w w' : World} {b m : Nat} {A : Nat → Int} {s : St}

theorem map_some (m : Nat) (w : World) : Sem.run Tryz.prog (binOp .eql 61 (.map (some m)) (.map none)) w = .ok (.bool false) w := by kernel_rfl
theorem map_none (w : World) : Sem.run Tryz.prog (binOp .eql 61 (.map none) (.map none)) w = .ok (.bool true) w := by kernel_rfl
abbrev ptr (b : Nat) : Value := .pointer (some ⟨b, 0, none⟩)
abbrev nilP : Value := .pointer none
set_option maxHeartbeats 1000000 in
set_option maxRecDepth 100000 in
theorem isNone_any (h : DAt w b m A s) : Calls Tryz.prog 49 #[ptr b] w fun e w' => e = .returned (.bool false) ∧ w' = w := by
  have h1 := h.mp
  have h2 := map_some m w
  clear h
  go_enter Tryz.func49, Tryz.ntmps49
  go_wp2
  go_ret
  exact ⟨rfl, rfl⟩
/- no disk, or one that no call made -/
def Nob (w : World) (v : Value) : Prop := v = nilP ∨ ∃ b, v = ptr b ∧ w.cell? ⟨b, 0, none⟩ = some (.map none)
theorem Nob.gr {v : Value} (h : Nob w v) (g : Gr w w') : Nob w' v := by
  rcases h with h | ⟨b, h1, h2⟩
  · exact Or.inl h
  · exact Or.inr ⟨b, h1, g.keep h2⟩
set_option maxHeartbeats 1000000 in
set_option maxRecDepth 100000 in
theorem noNone (v : Value) (h : Nob w v) : Calls Tryz.prog 49 #[v] w fun e w' => e = .returned (.bool true) ∧ w' = w := by
  rcases h with rfl | ⟨b, rfl, h1⟩
  · go_enter Tryz.func49, Tryz.ntmps49
    go_wp2
    go_ret
    exact ⟨rfl, rfl⟩
  · have h2 := map_none w
    go_enter Tryz.func49, Tryz.ntmps49
    go_wp2
    go_ret
    exact ⟨rfl, rfl⟩
set_option maxHeartbeats 1000000 in
set_option maxRecDepth 100000 in
theorem noPower (v : Value) (h : Nob w v) : Calls Tryz.prog 41 #[v] w fun e w' => e = .returned (.int .i64 1) ∧ w' = w := by
  have hN := noNone v h
  clear h
  go_enter Tryz.func41, Tryz.ntmps41
  go_wp2_with (go_at_call 49; refine hN.mono ?_; rintro e w' ⟨rfl, rfl⟩)
  go_ret
  exact ⟨rfl, rfl⟩
set_option maxHeartbeats 1000000 in
set_option maxRecDepth 100000 in
theorem power_any (h : DAt w b m A s) : Calls Tryz.prog 41 #[ptr b] w fun e w' => e = .returned (.int .i64 (Dk.craE s)) ∧ w' = w := by
  have hN := isNone_any h
  have h1 := h.dd
  clear h
  unfold Dk.craE
  cases hd : s.dead with
  | true =>
    rw [hd] at h1
    go_enter Tryz.func41, Tryz.ntmps41
    go_wp2_with (go_at_call 49; refine hN.mono ?_; rintro e w' ⟨rfl, rfl⟩)
    go_ret
    exact ⟨rfl, rfl⟩
  | false =>
    rw [hd] at h1
    go_enter Tryz.func41, Tryz.ntmps41
    go_wp2_with (go_at_call 49; refine hN.mono ?_; rintro e w' ⟨rfl, rfl⟩)
    go_ret
    exact ⟨rfl, rfl⟩
set_option maxHeartbeats 1000000 in
set_option maxRecDepth 100000 in
theorem within_any (n a c : Int) (w : World) : Calls Tryz.prog 52 #[.int .i64 n, .int .i64 a, .int .i64 c] w fun e w' => e = .returned (.bool (decide (a ≤ n ∧ n ≤ c))) ∧ w' = w := by
  by_cases h1 : a ≤ n
  · by_cases h2 : n ≤ c
    · rw [decide_eq_true (show a ≤ n ∧ n ≤ c from ⟨h1, h2⟩)]
      go_enter Tryz.func52, Tryz.ntmps52
      go_wp2
      go_ret
      exact ⟨rfl, rfl⟩
    · rw [decide_eq_false (show ¬ (a ≤ n ∧ n ≤ c) from fun h => h2 h.2)]
      go_enter Tryz.func52, Tryz.ntmps52
      go_wp2
      go_ret
      exact ⟨rfl, rfl⟩
  · rw [decide_eq_false (show ¬ (a ≤ n ∧ n ≤ c) from fun h => h1 h.1)]
    go_enter Tryz.func52, Tryz.ntmps52
    go_wp2
    go_ret
    exact ⟨rfl, rfl⟩
/- find -/
def fndE (s : St) (n : Int) : Int := if s.dead then 150 else if Dk.has s.L n = false then 152 else 0
def fndF (s : St) (n : Int) : Fl := if s.dead then zf 0 else Dk.get s.L n
set_option maxHeartbeats 1000000 in
set_option maxRecDepth 100000 in
theorem find_any (h : DAt w b m A s) {n : Int} (h0 : -9223372036854775808 ≤ n) (h1 : n ≤ 9223372036854775807) :
    Calls Tryz.prog 78 #[ptr b, .int .i64 n] w fun e w' => e = .returned (.tuple #[flV (fndF s n), .int .i64 (fndE s n)]) ∧ Gr w w' := by
  have hm := (Gr.refl w).alloc.keep (w1 := w.alloc (.cells #[.int .i64 0, .string ⟨#[]⟩, .int .i64 0] 24)) h.mp
  have HP : Hid (Calls Tryz.prog 41 #[ptr b] (w.alloc (.cells #[.int .i64 0, .string ⟨#[]⟩, .int .i64 0] 24)) fun e w' => e = .returned (.int .i64 (Dk.craE s)) ∧ w' = w.alloc (.cells #[.int .i64 0, .string ⟨#[]⟩, .int .i64 0] 24)) := power_any (h.gr (Gr.refl w).alloc)
  have HK := (h.fl.look h0 h1).1
  have HK' : (Instr.lookup 61 (.map (some m)) (.int .i64 n) true).run Tryz.prog (w.alloc (.cells #[.int .i64 0, .string ⟨#[]⟩, .int .i64 0] 24)) = .ok (.tuple #[flV (Dk.get s.L n), .bool (Dk.has s.L n)]) (w.alloc (.cells #[.int .i64 0, .string ⟨#[]⟩, .int .i64 0] 24)) := ((h.gr (Gr.refl w).alloc).fl.look h0 h1).1
  clear HK h
  unfold fndF fndE
  unfold Dk.craE at HP
  cases hd : s.dead with
  | true =>
    rw [hd] at HP
    clear HK'
    go_enter Tryz.func78, Tryz.ntmps78
    go_wp2_with (go_at_call 41; refine HP.out.mono ?_; rintro e w' ⟨rfl, rfl⟩)
    exact bodyPost_ret (v := .tuple #[.agg #[.int .i64 0, .string ⟨#[]⟩, .int .i64 0], .int .i64 150]) (by simp [results, Tryz.results78, go_sem]) rfl ⟨rfl, (by (repeat' (first | with_reducible exact Gr.refl _ | with_reducible refine Gr.set ?_ _ ?_ _ | with_reducible refine Gr.alloc ?_ | with_reducible refine Gr.drew ?_ | with_reducible refine Gr.trans ?_ (by assumption))) <;> (first | (simp; done) | (simp; omega) | omega))⟩
  | false =>
    rw [hd] at HP
    cases hh : Dk.has s.L n with
    | false =>
      rw [hh] at HK'
      rw [Dk.get_not hh] at HK' ⊢
      go_enter Tryz.func78, Tryz.ntmps78
      go_wp2_with (go_at_call 41; refine HP.out.mono ?_; rintro e w' ⟨rfl, rfl⟩)
      exact bodyPost_ret (v := .tuple #[.agg #[.int .i64 0, .string ⟨#[]⟩, .int .i64 0], .int .i64 152]) (by simp [results, Tryz.results78, go_sem]) rfl ⟨rfl, (by (repeat' (first | with_reducible exact Gr.refl _ | with_reducible refine Gr.set ?_ _ ?_ _ | with_reducible refine Gr.alloc ?_ | with_reducible refine Gr.drew ?_ | with_reducible refine Gr.trans ?_ (by assumption))) <;> (first | (simp; done) | (simp; omega) | omega))⟩
    | true =>
      rw [hh] at HK'
      generalize Dk.get s.L n = f at *
      go_enter Tryz.func78, Tryz.ntmps78
      go_wp2_with (go_at_call 41; refine HP.out.mono ?_; rintro e w' ⟨rfl, rfl⟩)
      exact bodyPost_ret (v := .tuple #[flV f, .int .i64 0]) (by simp [results, Tryz.results78, go_sem]) rfl ⟨rfl, (by (repeat' (first | with_reducible exact Gr.refl _ | with_reducible refine Gr.set ?_ _ ?_ _ | with_reducible refine Gr.alloc ?_ | with_reducible refine Gr.drew ?_ | with_reducible refine Gr.trans ?_ (by assumption))) <;> (first | (simp; done) | (simp; omega) | omega))⟩
end Go.Proofs.YtojmhhmpmpbpfaaGreatDoor
namespace Go.Proofs.YtojmhhmpmpbpfaaGreatDoor
open Go.RowKit Go.Maps
open Dk (Fl Fo St Ok Up zf emp used cutF one fallA kf)
variable {w w' : World} {b m : Nat} {A : Nat → Int} {s : St}

theorem wrap_in {n : Int} (h0 : -9223372036854775808 ≤ n) (h1 : n ≤ 9223372036854775807) : wrap64 n = n := by unfold wrap64; omega
set_option maxHeartbeats 400000 in
theorem clone_any (s : ByteArray) (w : World) (hs : s.size ≤ 140737488355328) : Calls Tryz.prog 31 #[.string s] w fun e w' => e = .returned (.string s) ∧ Gr w w' := by
  have HC : Hid (∀ w : World, Calls Tryz.prog 60 #[.string s] w fun e w' => e = .returned (.string s) ∧ Below w.heap.size w w') := fun w => Tryz.stringslite_Clone s w (by omega)
  go_enter Tryz.func31, Tryz.ntmps31
  go_wp2_with fail
  refine (HC.out _).mono ?_
  rintro e w1 ⟨rfl, hb⟩
  go_wp2
  go_ret
  exact ⟨rfl, ⟨hb⟩⟩
/- files that are the same -/
def eqF (x y : Fl) : Bool := decide (x.n = y.n) && decide (x.d = y.d) && decide (x.y = y.y)
theorem eqF_iff (x y : Fl) : eqF x y = true ↔ x = y := by
  unfold eqF
  simp only [Bool.and_eq_true, decide_eq_true_eq]
  constructor
  · rintro ⟨⟨h1, h2⟩, h3⟩
    exact Dk.Fl.ext' h1 h2 h3
  · rintro rfl; simp
theorem toL_eq (a b : ByteArray) : (a.toList = b.toList) ↔ a = b := by
  rw [ByteArray.toList_eq, ByteArray.toList_eq]
  refine ⟨fun h => ?_, fun h => by rw [h]⟩
  cases a; cases b
  congr 1
  exact Array.toList_inj.1 h
theorem eql_fl (x y : Fl) (W : World) : (binOp .eql 24 (flV x) (flV y)).run Tryz.prog W = .ok (.bool (eqF x y)) W := by
  unfold flV
  go_simp
  unfold eqF
  simp only [toL_eq]
  by_cases h1 : x.n = y.n <;> by_cases h2 : x.d = y.d <;> by_cases h3 : x.y = y.y <;> simp [h1, h2, h3]
theorem neq_fl (x y : Fl) (W : World) : (binOp .neq 24 (flV x) (flV y)).run Tryz.prog W = .ok (.bool (!eqF x y)) W := by
  unfold flV
  go_simp
  unfold eqF
  simp only [toL_eq]
  by_cases h1 : x.n = y.n <;> by_cases h2 : x.d = y.d <;> by_cases h3 : x.y = y.y <;> simp [h1, h2, h3]
theorem size_nil (d : ByteArray) : d = ⟨#[]⟩ ↔ d.size = 0 := by
  constructor
  · rintro rfl; rfl
  · intro h
    cases d with
    | mk a => congr 1; exact Array.size_eq_zero_iff.1 h
theorem emp_eq (f : Fl) : eqF f (zf f.n) = emp f := by
  unfold eqF emp
  by_cases h : f.d.size = 0
  · rw [decide_eq_true (show f.d = (zf f.n).d from (size_nil f.d).2 h), decide_eq_true h]
    simp
  · rw [decide_eq_false (show ¬ f.d = (zf f.n).d from fun e => h ((size_nil _).1 e)), decide_eq_false h]
    simp
set_option maxHeartbeats 1000000 in
set_option maxRecDepth 100000 in
theorem own_any (f : Fl) (w : World) (hs : f.d.size ≤ 140737488355328) : Calls Tryz.prog 27 #[flV f] w fun e w' => e = .returned (flV f) ∧ Gr w w' := by
  have HC : Hid (∀ w1 : World, Calls Tryz.prog 31 #[.string f.d] w1 fun e w' => e = .returned (.string f.d) ∧ Gr w1 w') := fun w1 => clone_any f.d w1 hs
  obtain ⟨n, d, y⟩ := f
  simp only at HC hs
  unfold flV
  go_enter Tryz.func27, Tryz.ntmps27
  go_wp2_with fail
  refine (HC.out _).mono ?_
  rintro e w1 ⟨rfl, hb⟩
  have b1 := (BoxAt.new w (.int .i64 n) (.string d) (.int .i64 y) 24 _ rfl).gr ((Gr.refl _).alloc (o := .cells #[.int .i64 0, .string ⟨#[]⟩, .int .i64 0] 24))
  have b2 := BoxAt.new (w.alloc (.cells #[.int .i64 n, .string d, .int .i64 y] 24)) (.int .i64 0) (.string ⟨#[]⟩) (.int .i64 0) 24 (w.heap.size + 1) (by simp)
  have b1' := b1.gr hb
  have b2' := b2.gr hb
  obtain ⟨c0, c1, c2, f0, f1, f2, _⟩ := b1'
  obtain ⟨d0, d1, d2, g0, g1, g2, _⟩ := b2'
  have hg : Gr w w1 := (Gr.refl w).alloc.alloc.trans hb
  clear b1 b2 hb HC
  go_wp2
  exact bodyPost_ret (v := .agg #[.int .i64 n, .string d, .int .i64 y]) (by simp [results, Tryz.results27, go_sem, *]) rfl ⟨rfl, (((hg.set _ (by simp) _).set _ (by simp) _).set _ (by simp) _).set _ (by simp) _⟩
set_option maxHeartbeats 1000000 in
set_option maxRecDepth 100000 in
theorem first_any (f : Fl) {k : Int} (w : World) (h0 : 0 ≤ k) (h1 : k ≤ f.d.size) (hs : f.d.size ≤ 140737488355328) : Calls Tryz.prog 98 #[flV f, .int .i64 k] w fun e w' => e = .returned (flV (Dk.fst f k)) ∧ Gr w w' := by
  obtain ⟨k, rfl⟩ : ∃ j : Nat, k = (j : Int) := ⟨k.toNat, by omega⟩
  have hk : Dk.fst f (k : Int) = ⟨f.n, f.d.extract 0 k, (k : Int)⟩ := rfl
  rw [hk]
  obtain ⟨n, d, y⟩ := f
  simp only at h1 hs hk ⊢
  have h1' : k ≤ d.size := by omega
  unfold flV
  clear hk
  go_enter Tryz.func98, Tryz.ntmps98
  go_wp2
  go_region
  go_wp2
  exact bodyPost_ret (v := .agg #[.int .i64 n, .string (d.extract 0 k), .int .i64 (k : Int)]) (by simp [results, Tryz.results98, go_sem]) rfl ⟨rfl, (by (repeat' (first | with_reducible exact Gr.refl _ | with_reducible refine Gr.set ?_ _ ?_ _ | with_reducible refine Gr.alloc ?_ | with_reducible refine Gr.drew ?_ | with_reducible refine Gr.trans ?_ (by assumption))) <;> (first | (simp; done) | (simp; omega) | omega))⟩
theorem put_res {w w2 : World} {o : Obj} (h : DAt w b m A s) (hg : (w.alloc o).drew.grownBy w2 (some m)) {L : List Fl} (hf : FilesAt w2 m L) (hk : Ok { s with L := L }) : DAt w2 b m A { s with L := L } ∧ Td w w2 b m :=
  ⟨(h.gr (Gr.refl w).alloc.drew).setFiles hg hf hk, (Td.gr (Gr.refl w).alloc.drew).trans (Td.of_grown hg)⟩
set_option maxHeartbeats 1000000 in
set_option maxRecDepth 100000 in
theorem put_ins {f : Fl} (h : DAt w b m A s) (he : emp f = false) (h0 : -9223372036854775808 ≤ f.n) (h1 : f.n ≤ 9223372036854775807) (hk : Ok { s with L := Dk.ins f s.L }) :
    Calls Tryz.prog 26 #[ptr b, flV f] w fun e w' => e = .returned (.tuple #[]) ∧ DAt w' b m A { s with L := Dk.ins f s.L } ∧ Td w w' b m := by
  have hm := (Gr.refl w).alloc.keep (w1 := w.alloc (.cells #[.int .i64 f.n, .string f.d, .int .i64 f.y] 24)) h.mp
  have hE : ∀ W, (binOp .eql 24 (.agg #[.int .i64 f.n, .string f.d, .int .i64 f.y]) (.agg #[.int .i64 f.n, .string ⟨#[]⟩, .int .i64 0])).run Tryz.prog W = .ok (.bool false) W := fun W => by have := eql_fl f (zf f.n) W; rw [emp_eq, he] at this; exact this
  obtain ⟨w2, hrun, hfl, hg, hs⟩ := (h.gr (Gr.refl w).alloc.drew (w' := (w.alloc (.cells #[.int .i64 f.n, .string f.d, .int .i64 f.y] 24)).drew)).fl.put h.ok.up (by have := h.ok.len; omega) h0 h1
  have HR := Lib.hid (put_res h hg hfl hk)
  clear h hg hfl hk he
  obtain ⟨n, d, y⟩ := f
  simp only at *
  go_enter Tryz.func26, Tryz.ntmps26
  go_wp2
  go_region
  go_wp2
  go_end0
  exact ⟨rfl, HR.out⟩
set_option maxHeartbeats 1000000 in
set_option maxRecDepth 100000 in
theorem put_del {f : Fl} (h : DAt w b m A s) (he : emp f = true) (hh : Dk.has s.L f.n = true) (h0 : -9223372036854775808 ≤ f.n) (h1 : f.n ≤ 9223372036854775807) (hk : Ok { s with L := Dk.del s.L f.n }) :
    Calls Tryz.prog 26 #[ptr b, flV f] w fun e w' => e = .returned (.tuple #[]) ∧ DAt w' b m A { s with L := Dk.del s.L f.n } ∧ Td w w' b m := by
  have hm := (Gr.refl w).alloc.keep (w1 := w.alloc (.cells #[.int .i64 f.n, .string f.d, .int .i64 f.y] 24)) h.mp
  have hE : ∀ W, (binOp .eql 24 (.agg #[.int .i64 f.n, .string f.d, .int .i64 f.y]) (.agg #[.int .i64 f.n, .string ⟨#[]⟩, .int .i64 0])).run Tryz.prog W = .ok (.bool true) W := fun W => by have := eql_fl f (zf f.n) W; rw [emp_eq, he] at this; exact this
  obtain ⟨w2, hrun, hfl, hg, hs⟩ := (h.gr (Gr.refl w).alloc.drew (w' := (w.alloc (.cells #[.int .i64 f.n, .string f.d, .int .i64 f.y] 24)).drew)).fl.drop h.ok.up hh h0 h1 0
  have HR := Lib.hid (put_res h hg hfl hk)
  clear h hg hfl hk he hh
  obtain ⟨n, d, y⟩ := f
  simp only at *
  go_enter Tryz.func26, Tryz.ntmps26
  go_wp2
  go_region
  go_wp2
  exact bodyPost_ret (results_none rfl _ _ _) rfl ⟨rfl, HR.out⟩
theorem put_any {f : Fl} (h : DAt w b m A s) (hd : emp f = true → Dk.has s.L f.n = true) (h0 : -9223372036854775808 ≤ f.n) (h1 : f.n ≤ 9223372036854775807) (hk : Ok { s with L := Dk.put f s.L }) :
    Calls Tryz.prog 26 #[ptr b, flV f] w fun e w' => e = .returned (.tuple #[]) ∧ DAt w' b m A { s with L := Dk.put f s.L } ∧ Td w w' b m := by
  unfold Dk.put at hk ⊢
  cases he : emp f with
  | true => rw [he] at hk; exact put_del h he (hd he) h0 h1 hk
  | false => rw [he] at hk; exact put_ins h he h0 h1 hk
set_option maxHeartbeats 1000000 in
set_option maxRecDepth 100000 in
theorem read_any (h : DAt w b m A s) {n : Int} (h0 : -9223372036854775808 ≤ n) (h1 : n ≤ 9223372036854775807) :
    Calls Tryz.prog 53 #[ptr b, .int .i64 n] w fun e w' => e = .returned (.tuple #[.string (fndF s n).d, .int .i64 (fndE s n)]) ∧ Gr w w' := by
  have hsz : (fndF s n).d.size ≤ 140737488355328 := by
    unfold fndF
    split
    · show (0 : Nat) ≤ _; omega
    · cases hh : Dk.has s.L n with
      | false => rw [Dk.get_not hh]; show (0 : Nat) ≤ _; omega
      | true =>
        have h5 := Dk.used_del h.ok.up hh
        have := h.ok.fits
        have := h.ok.r1
        omega
  have HF := Lib.hid (find_any h h0 h1)
  have HC : Hid (∀ w1 : World, Calls Tryz.prog 31 #[.string (fndF s n).d] w1 fun e w' => e = .returned (.string (fndF s n).d) ∧ Gr w1 w') := fun w1 => clone_any _ w1 hsz
  clear h hsz
  generalize fndF s n = f at *
  generalize fndE s n = k at *
  obtain ⟨fn, d, y⟩ := f
  simp only at *
  go_enter Tryz.func53, Tryz.ntmps53
  go_wp2_with fail
  refine HF.out.mono ?_
  rintro e w1 ⟨rfl, hg⟩
  go_wp2_with fail
  refine (HC.out _).mono ?_
  rintro e w2 ⟨rfl, hg2⟩
  go_wp2
  go_ret2
  exact ⟨rfl, hg.trans ((Gr.refl w1).alloc.trans hg2)⟩
end Go.Proofs.YtojmhhmpmpbpfaaGreatDoor
namespace Go.Proofs.YtojmhhmpmpbpfaaGreatDoor
open Go.RowKit Go.Maps Go.Sort Go.Shelf
open Dk (Fl Fo St Ok Up zf emp used cutF one fallA kf)
variable {w w' : World} {b m : Nat} {A : Nat → Int} {s : St}

theorem sorts (m : Nat) : AnyZI.SortsIn Tryz.prog Tryz.sortedA_ren Fence.wide m :=
  ⟨fun blk off cap ss W hH hblk hsz => callsIn_wide.2 (AnyM.slices_Sort_int Tryz.sortA blk off cap ss W hH hblk hsz),
   fun p cap W => callsIn_wide.2 (AnyM.slices_Sort_int_none Tryz.sortA p cap W)⟩
/- maps.Keys, and slices.Sorted of what it answers -/
theorem keys_any (mb : Option Nat) (W : World) : Calls Tryz.prog 70 #[.map mb] W fun e w' => e = .returned (.func (.func 91) #[] #[.pointer (some ⟨W.heap.size, 0, none⟩)]) ∧ w' = W.alloc (.cells #[.map mb] 61) :=
  (callsIn_wide (n := 5)).1 (AnyZI.keys_in Tryz.keysA Fence.wide 5 trivial rfl mb W)
theorem sorted_any {nn : Nat} {D : DataW Unit} (hown : w.ownsMap Tryz.prog 3 flE m nn D) (hmax : Maps.size D ≤ 1000) :
    Calls Tryz.prog 69 #[.func (.func 91) #[] #[.pointer (some ⟨w.heap.size, 0, none⟩)]] (w.alloc (.cells #[.map (some m)] 61)) fun e w' => ∃ (v : Value) (ss : List Int), e = .returned v ∧ ss.Perm (intKeys D) ∧
      w'.ownsRow w.heap.size 3 1 v ss.length ((ss.mergeSort (fun x y => decide (x ≤ y))).map encZ) ∧ (v = .slice none 0 0 ↔ ss = []) ∧ Gr w w' := by
  refine (callsIn_wide (n := 5)).1 ?_
  have hbl := hown.lt
  have hseq : SeqGives Fence.wide 2 Tryz.prog 91 #[.pointer (some ⟨w.heap.size, 0, none⟩)] encZ (fun ss => ss.Perm (intKeys D)) (Maps.size D) (w.alloc (.cells #[.map (some m)] 61)) :=
    AnyZI.keys_gives (ρ := Tryz.keysA_ren) { Tryz.keysA with } Fence.wide _ trivial rfl (by omega) w.heap.size m nn D _ (by simp) (by simp) (by
      obtain ⟨es, clock, hb, Ft, hs, hD⟩ := hown
      exact ⟨es, clock, (Below.heap_alloc _ _ m hbl).trans hb, Ft, hs, hD⟩)
  have cS := AnyZI.sorted_in Tryz.sortedA Fence.wide 5 trivial trivial trivial trivial rfl (by omega) (sorts _) (enters_of Tryz.func90 (by kernel_rfl) rfl) 91 #[.pointer (some ⟨w.heap.size, 0, none⟩)] trivial (enters_of Tryz.func91 (by kernel_rfl) rfl) _ _ (by unfold maxLen; omega) (by omega) _ hseq
  refine cS.mono ?_
  rintro e w' ⟨v, ss, rfl, hS, hrow, hnil, hb⟩
  exact ⟨v, ss, rfl, hS, ownsRow_base_a hrow (by simp), hnil, ⟨((Below.refl _ w).alloc (Nat.le_refl _) _).trans (hb.mono (by simp))⟩⟩
def nms (L : List Fl) : List Value := L.map (fun f => .int .i64 f.n)
def FlR (w w' : World) (L : List Fl) (v : Value) : Prop := w'.ownsRow w.heap.size 3 1 v L.length (nms L) ∧ (v = .slice none 0 0 ↔ L = []) ∧ Gr w w'
theorem sorted_files {L : List Fl} (h : FilesAt w m L) (hu : Up L) (hl : L.length ≤ 1000) :
    Calls Tryz.prog 69 #[.func (.func 91) #[] #[.pointer (some ⟨w.heap.size, 0, none⟩)]] (w.alloc (.cells #[.map (some m)] 61)) fun e w' => ∃ v, e = .returned v ∧ FlR w w' L v := by
  obtain ⟨D, h, r⟩ := h
  refine (sorted_any h (by rw [r.size]; exact hl)).mono ?_
  rintro e w' ⟨v, ss, rfl, hp, hrow, hn, hg⟩
  have hp2 : ss.Perm (L.map (·.n)) := hp.trans (keys_perm h r hu).symm
  have hlen : ss.length = L.length := by rw [hp2.length_eq]; simp
  rw [merge_eq hp2 hu, hlen, List.map_map] at hrow
  refine ⟨v, rfl, hrow, hn.trans ?_, hg⟩
  constructor
  · rintro rfl; exact List.length_eq_zero_iff.1 hlen.symm
  · rintro rfl; exact List.length_eq_zero_iff.1 hlen
set_option maxHeartbeats 1000000 in
set_option maxRecDepth 100000 in
theorem files_any (h : DAt w b m A s) : Calls Tryz.prog 39 #[ptr b] w fun e w' => ∃ v, e = .returned v ∧ FlR w w' s.L v := by
  have hN := isNone_any h
  have h1 := h.mp
  have HS := Lib.hid (sorted_files h.fl h.ok.up (by have := h.ok.len; omega))
  have HK := Lib.hid (keys_any (some m) w)
  clear h
  go_enter Tryz.func39, Tryz.ntmps39
  go_wp2_with (go_at_call 49; refine hN.mono ?_; rintro e w' ⟨rfl, rfl⟩)
  refine HK.out.mono ?_
  rintro e w1 ⟨rfl, rfl⟩
  go_wp2_with fail
  refine HS.out.mono ?_
  rintro e w1 ⟨v, rfl, hr⟩
  go_wp2
  go_ret
  exact ⟨v, rfl, hr⟩
end Go.Proofs.YtojmhhmpmpbpfaaGreatDoor
namespace Go.Proofs.YtojmhhmpmpbpfaaGreatDoor
open Go.RowKit Go.Maps
open Dk (Fl Fo St Ok Up zf emp used cutF one fallA kf)
variable {w w' : World} {b m : Nat} {A : Nat → Int} {s : St}

theorem Gr.grow {a w w' : World} {r : Option Nat} (h : Gr a w) (g : w.grownBy w' r) (hr : ∀ j, r = some j → a.heap.size ≤ j) : Gr a w' := ⟨h.below.grown g h.size hr⟩
/- how many bytes are still to come -/
def sumL (left : Lit → Bool) (L : List Fl) : Nat := ((L.filter (fun f => left (kL f.n))).map (fun f => f.d.size)).sum
theorem sumL_all {D : DataW Unit} {L : List Fl} (r : Rep D L) : sumL (Maps.has D) L = used L := by
  unfold sumL used
  rw [List.filter_eq_self.2 (fun f hf => by rw [r.has]; exact Dk.has_of hf)]
theorem sumL_none {left : Lit → Bool} (h : ∀ k, left k = false) (L : List Fl) : sumL left L = 0 := by
  unfold sumL
  rw [List.filter_eq_nil_iff.2 (fun f _ => by rw [h]; simp)]
  rfl
theorem same_lit (a c : Int) : (kL a).sameKey (kL c) = decide (a = c) := by
  by_cases h : a = c
  · simp [Lit.sameKey, h]
  · simp [Lit.sameKey, h]
theorem sumL_step {left : Lit → Bool} {L : List Fl} (hu : Up L) {f : Fl} (hf : f ∈ L) (hl : left (kL f.n) = true) : sumL left L = f.d.size + sumL (fun z => left z && !z.sameKey (kL f.n)) L := by
  induction L with
  | nil => cases hf
  | cons x t ih =>
    obtain ⟨h1, h2⟩ := List.pairwise_cons.1 hu
    have cons : ∀ l : Lit → Bool, sumL l (x :: t) = (if l (kL x.n) then x.d.size else 0) + sumL l t := by
      intro l
      unfold sumL
      cases e : l (kL x.n) with
      | true => rw [List.filter_cons_of_pos (by exact e)]; simp
      | false => rw [List.filter_cons_of_neg (by rw [e]; simp)]; simp
    rw [cons, cons]
    rcases List.mem_cons.1 hf with rfl | hf
    · have e : sumL (fun z => left z && !z.sameKey (kL f.n)) t = sumL left t := by
        unfold sumL
        congr 2
        refine List.filter_congr fun y hy => ?_
        have := h1 y hy
        show (left (kL y.n) && !(kL y.n).sameKey (kL f.n)) = left (kL y.n)
        rw [same_lit, decide_eq_false (by omega)]
        simp
      rw [e, hl, same_lit]
      simp
    · have := h1 f hf
      rw [ih h2 hf, same_lit, decide_eq_false (by omega)]
      simp
      omega
theorem rep_get {D : DataW Unit} {L : List Fl} (r : Rep D L) (x : Int) (c : Fl) (h : ∀ z, D.atKey (kL x) z = flD c) : c ∈ L ∧ c.n = x := by
  have hh : Dk.has L x = true := by rw [← r.has]; exact has_true_of_atKey h
  obtain ⟨g1, g2⟩ := Dk.get_mem hh
  have h1 := r.at_ _ g1 (flD c)
  rw [g2, h (flD c)] at h1
  rw [flD_inj h1]
  exact ⟨g1, g2⟩
set_option maxHeartbeats 4000000 in
set_option maxRecDepth 100000 in
theorem used_any (h : DAt w b m A s) : Calls Tryz.prog 95 #[ptr b] w fun e w' => e = .returned (.int .i64 (used s.L : Int)) ∧ Gr w w' := by
  have hN := isNone_any h
  have h1 := h.mp
  obtain ⟨D, hown, r⟩ := h.fl
  have HU : Hid (Up s.L) := h.ok.up
  have HS0 : Hid (sumL (Maps.has D) s.L = used s.L) := sumL_all r
  have HB : Hid (used s.L ≤ 200000) := by have := h.ok.fits; have := h.ok.r1; show used s.L ≤ 200000; omega
  have HRp : Hid (Rep D s.L) := r
  generalize s.L.length = ll at hown
  clear h r
  go_enter Tryz.func95, Tryz.ntmps95
  go_wp2_with (first
    | (go_at_call 49; refine hN.mono ?_; rintro e w' ⟨rfl, hw⟩; obtain rfl := hw.symm; clear hw)
    | (at_range; refine wpList_range_own _ rfl _ 61 rfl 3 24 intLaw Tryz.underlying61 _ m ll _ rfl hown ?_; intro w0 hrg0 hg0 hs0)
    | go_in)
  go_frame
  clear hs0
  go_loopw [3, 5] (fun i _ wr => ∃ (left : Lit → Bool) (cnt : Nat) (a : Nat), i = .int .i64 (a : Int) ∧ wr.ranges Tryz.prog 3 flE m w.heap.size ll D left cnt ∧ a + sumL left s.L = used s.L ∧ Gr w wr)
    (fun _ _ wr => wr.rangeLeft m w.heap.size)
  case atStart => exact ⟨_, _, 0, rfl, hrg0, by rw [Nat.zero_add]; exact HS0.out, (Gr.refl w).grow hg0 (fun j hj => by cases hj)⟩
  case round =>
    obtain ⟨left, cnt, a, rfl, hrg, hs, hg⟩ := hrel
    have HSm : Hid (a + sumL left s.L = used s.L) := hs
    have HG : Hid (Gr w wr) := hg
    have HR := Lib.hid hrg
    clear hs hg hg0 hrg0 hown HS0
    go_wp2_with (first
      | (at_next; refine wpList_next_ranges _ rfl _ rfl 3 intLaw flE (Value.int .i64) (fun f : Int × ByteArray × Int => .agg #[.int .i64 f.1, .string f.2.1, .int .i64 f.2.2]) (fun key kl hk => by obtain ⟨x, hx, _⟩ := Maps.keyOf_i64 Tryz.underlying3 hk; exact ⟨x, hx⟩) (fun v y hv => by obtain ⟨c, rfl, _⟩ := flE_inv hv; exact ⟨(c.n, c.d, c.y), rfl⟩) m w.heap.size ll _ _ _ rfl hrg ?_ ?_)
      | go_in)
    · intro hc0 hl0
      have HE : Hid (a = used s.L) := by have h1 := HSm.out; rw [sumL_none hl0] at h1; exact h1
      clear hl0 hc0
      go_wp2
      go_ret
      exact ⟨by rw [HE.out]; rfl, HG.out⟩
    · intro x cn cd cy kl yd yp w2 cnt2 hkey hlk hv hat hrg2 hlt hg2 hs2 hen
      obtain ⟨x', ex, rfl, _⟩ := Maps.keyOf_i64 Tryz.underlying3 hkey
      obtain rfl : x = x' := encZ_inj ex
      have hv' : flE (flV ⟨cn, cd, cy⟩) = some (yd, yp) := hv
      rw [flE_mk] at hv'
      cases hv'
      obtain ⟨q1, q2⟩ := rep_get HRp.out x ⟨cn, cd, cy⟩ hat
      simp only at q2
      subst q2
      have HT := Lib.hid (sumL_step HU.out q1 hlk)
      have HG2 : Hid (Gr w w2) := HG.out.grow hg2 (fun j hj => by cases hj; exact Nat.le_refl _)
      have HR2 := Lib.hid hrg2
      have HLT : Hid (cnt2 < cnt) := hlt
      have hcs : (a : Int) + (cd.size : Int) ≤ 200000 := by have := HT.out; have := HSm.out; have := HB.out; simp only at *; omega
      clear hkey hlk hv hat hrg2 hlt hg2 hs2 hrg q1 ex
      go_wp2
      go_roundw
      case rel => exact ⟨fun z => left z && !z.sameKey (kL cn), cnt2, a + cd.size, by simp, HR2.out.alloc _, by (have t1 := HT.out; have t2 := HSm.out; simp only at t1; omega), HG2.out.alloc⟩
      case measure => rw [(HR2.out.alloc _).left_eq, HR.out.left_eq]; exact HLT.out
end Go.Proofs.YtojmhhmpmpbpfaaGreatDoor
