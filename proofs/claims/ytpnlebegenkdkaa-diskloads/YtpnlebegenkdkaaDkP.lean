
/- disk: isNone, power, within, find, first, put. -/
import Derived.Test.YtpnlebegenkdkaaDkA
import Derived.Test.YtpnlebegenkdkaaRegL
namespace Go.Proofs.Ytpnlebegenkdkaa
open Go.RowKit Go.Maps
open Dk (Fl Fo St Ok Up zf emp used cutF one fallA kf)
variable {w w' : World} {b m : Nat} {A : Nat → Int} {s : St}

theorem map_some (m : Nat) (w : World) : Sem.run Try.prog (binOp .eql 44 (.map (some m)) (.map none)) w = .ok (.bool false) w := by kernel_rfl
theorem map_none (w : World) : Sem.run Try.prog (binOp .eql 44 (.map none) (.map none)) w = .ok (.bool true) w := by kernel_rfl
abbrev ptr (b : Nat) : Value := .pointer (some ⟨b, 0, none⟩)
abbrev nilP : Value := .pointer none
set_option maxHeartbeats 1000000 in
set_option maxRecDepth 100000 in
theorem isNone_any (h : DAt w b m A s) : Calls Try.prog 51 #[ptr b] w fun e w' => e = .returned (.bool false) ∧ w' = w := by
  have h1 := h.mp
  have h2 := map_some m w
  clear h
  go_enter Try.func51, Try.ntmps51
  go_wp2
  go_ret
  exact ⟨rfl, rfl⟩
/- no disk, or one that no call made -/
def Nob (w : World) (v : Value) : Prop := v = nilP ∨ ∃ b, v = ptr b ∧ w.cell? ⟨b, 0, none⟩ = some (.map none)
theorem Nob.gr {v : Value} (h : Nob w v) (g : Gr w w') : Nob w' v := by
  rcases h with h | ⟨b, h1, h2⟩
  · exact Or.inl h
  · exact Or.inr ⟨b, h1, g.keep h2⟩
set_option maxHeartbeats 1000000 in
set_option maxRecDepth 100000 in
theorem noNone (v : Value) (h : Nob w v) : Calls Try.prog 51 #[v] w fun e w' => e = .returned (.bool true) ∧ w' = w := by
  rcases h with rfl | ⟨b, rfl, h1⟩
  · go_enter Try.func51, Try.ntmps51
    go_wp2
    go_ret
    exact ⟨rfl, rfl⟩
  · have h2 := map_none w
    go_enter Try.func51, Try.ntmps51
    go_wp2
    go_ret
    exact ⟨rfl, rfl⟩
set_option maxHeartbeats 1000000 in
set_option maxRecDepth 100000 in
theorem noPower (v : Value) (h : Nob w v) : Calls Try.prog 44 #[v] w fun e w' => e = .returned (.int .i64 1) ∧ w' = w := by
  have hN := noNone v h
  clear h
  go_enter Try.func44, Try.ntmps44
  go_wp2_with (go_at_call 51; refine hN.mono ?_; rintro e w' ⟨rfl, rfl⟩)
  go_ret
  exact ⟨rfl, rfl⟩
set_option maxHeartbeats 1000000 in
set_option maxRecDepth 100000 in
theorem power_any (h : DAt w b m A s) : Calls Try.prog 44 #[ptr b] w fun e w' => e = .returned (.int .i64 (Dk.craE s)) ∧ w' = w := by
  have hN := isNone_any h
  have h1 := h.dd
  clear h
  unfold Dk.craE
  cases hd : s.dead with
  | true =>
    rw [hd] at h1
    go_enter Try.func44, Try.ntmps44
    go_wp2_with (go_at_call 51; refine hN.mono ?_; rintro e w' ⟨rfl, rfl⟩)
    go_ret
    exact ⟨rfl, rfl⟩
  | false =>
    rw [hd] at h1
    go_enter Try.func44, Try.ntmps44
    go_wp2_with (go_at_call 51; refine hN.mono ?_; rintro e w' ⟨rfl, rfl⟩)
    go_ret
    exact ⟨rfl, rfl⟩
set_option maxHeartbeats 1000000 in
set_option maxRecDepth 100000 in
theorem within_any (n a c : Int) (w : World) : Calls Try.prog 45 #[.int .i64 n, .int .i64 a, .int .i64 c] w fun e w' => e = .returned (.bool (decide (a ≤ n ∧ n ≤ c))) ∧ w' = w := by
  by_cases h1 : a ≤ n
  · by_cases h2 : n ≤ c
    · rw [decide_eq_true (show a ≤ n ∧ n ≤ c from ⟨h1, h2⟩)]
      go_enter Try.func45, Try.ntmps45
      go_wp2
      go_ret
      exact ⟨rfl, rfl⟩
    · rw [decide_eq_false (show ¬ (a ≤ n ∧ n ≤ c) from fun h => h2 h.2)]
      go_enter Try.func45, Try.ntmps45
      go_wp2
      go_ret
      exact ⟨rfl, rfl⟩
  · rw [decide_eq_false (show ¬ (a ≤ n ∧ n ≤ c) from fun h => h1 h.1)]
    go_enter Try.func45, Try.ntmps45
    go_wp2
    go_ret
    exact ⟨rfl, rfl⟩
/- find -/
def fndE (s : St) (n : Int) : Int := if s.dead then 150 else if Dk.has s.L n = false then 152 else 0
def fndF (s : St) (n : Int) : Fl := if s.dead then zf 0 else Dk.get s.L n
set_option maxHeartbeats 1000000 in
set_option maxRecDepth 100000 in
theorem find_any (h : DAt w b m A s) {n : Int} (h0 : -9223372036854775808 ≤ n) (h1 : n ≤ 9223372036854775807) :
    Calls Try.prog 42 #[ptr b, .int .i64 n] w fun e w' => e = .returned (.tuple #[flV (fndF s n), .int .i64 (fndE s n)]) ∧ Gr w w' := by
  have hm := (Gr.refl w).alloc.keep (w1 := w.alloc (.cells #[.int .i64 0, .string ⟨#[]⟩, .int .i64 0] 40)) h.mp
  have HP : Hid (Calls Try.prog 44 #[ptr b] (w.alloc (.cells #[.int .i64 0, .string ⟨#[]⟩, .int .i64 0] 40)) fun e w' => e = .returned (.int .i64 (Dk.craE s)) ∧ w' = w.alloc (.cells #[.int .i64 0, .string ⟨#[]⟩, .int .i64 0] 40)) := power_any (h.gr (Gr.refl w).alloc)
  have HK := (h.fl.look h0 h1).1
  have HK' : (Instr.lookup 44 (.map (some m)) (.int .i64 n) true).run Try.prog (w.alloc (.cells #[.int .i64 0, .string ⟨#[]⟩, .int .i64 0] 40)) = .ok (.tuple #[flV (Dk.get s.L n), .bool (Dk.has s.L n)]) (w.alloc (.cells #[.int .i64 0, .string ⟨#[]⟩, .int .i64 0] 40)) := ((h.gr (Gr.refl w).alloc).fl.look h0 h1).1
  clear HK h
  unfold fndF fndE
  unfold Dk.craE at HP
  cases hd : s.dead with
  | true =>
    rw [hd] at HP
    clear HK'
    go_enter Try.func42, Try.ntmps42
    go_wp2_with (go_at_call 44; refine HP.out.mono ?_; rintro e w' ⟨rfl, rfl⟩)
    exact bodyPost_ret (v := .tuple #[.agg #[.int .i64 0, .string ⟨#[]⟩, .int .i64 0], .int .i64 150]) (by simp [results, Try.results42, go_sem]) rfl ⟨rfl, (by (repeat' (first | with_reducible exact Gr.refl _ | with_reducible refine Gr.set ?_ _ ?_ _ | with_reducible refine Gr.alloc ?_ | with_reducible refine Gr.drew ?_ | with_reducible refine Gr.trans ?_ (by assumption))) <;> (first | (simp; done) | (simp; omega) | omega))⟩
  | false =>
    rw [hd] at HP
    cases hh : Dk.has s.L n with
    | false =>
      rw [hh] at HK'
      rw [Dk.get_not hh] at HK' ⊢
      go_enter Try.func42, Try.ntmps42
      go_wp2_with (go_at_call 44; refine HP.out.mono ?_; rintro e w' ⟨rfl, rfl⟩)
      exact bodyPost_ret (v := .tuple #[.agg #[.int .i64 0, .string ⟨#[]⟩, .int .i64 0], .int .i64 152]) (by simp [results, Try.results42, go_sem]) rfl ⟨rfl, (by (repeat' (first | with_reducible exact Gr.refl _ | with_reducible refine Gr.set ?_ _ ?_ _ | with_reducible refine Gr.alloc ?_ | with_reducible refine Gr.drew ?_ | with_reducible refine Gr.trans ?_ (by assumption))) <;> (first | (simp; done) | (simp; omega) | omega))⟩
    | true =>
      rw [hh] at HK'
      generalize Dk.get s.L n = f at *
      go_enter Try.func42, Try.ntmps42
      go_wp2_with (go_at_call 44; refine HP.out.mono ?_; rintro e w' ⟨rfl, rfl⟩)
      exact bodyPost_ret (v := .tuple #[flV f, .int .i64 0]) (by simp [results, Try.results42, go_sem]) rfl ⟨rfl, (by (repeat' (first | with_reducible exact Gr.refl _ | with_reducible refine Gr.set ?_ _ ?_ _ | with_reducible refine Gr.alloc ?_ | with_reducible refine Gr.drew ?_ | with_reducible refine Gr.trans ?_ (by assumption))) <;> (first | (simp; done) | (simp; omega) | omega))⟩
end Go.Proofs.Ytpnlebegenkdkaa
