/- slices.Clone of accounts and of marks. -/
import Derived.Test.YtiakajheoajepaaLedA
import Derived.Lib.AppendZeros
import Derived.Laws.AppendOwnNone
namespace Go.Proofs.Ytiakajheoajepaa
open Go.RowKit
open Led (Acc Mk)
theorem own_litA (w : World) (base : Nat) (t : TypeId) (g : Nat) (hg : g = w.heap.size) (hb : base ≤ w.heap.size) : (w.alloc (.cells #[] t)).ownsRow base t 7 (.slice (some ⟨g, 0, none⟩) 0 0) 0 [] := by
  subst hg; exact World.ownsRow_lit w #[] 0 hb (by unfold maxLen; omega) rfl
theorem own_litM (w : World) (base : Nat) (t : TypeId) (g : Nat) (hg : g = w.heap.size) (hb : base ≤ w.heap.size) : (w.alloc (.cells #[] t)).ownsRow base t 5 (.slice (some ⟨g, 0, none⟩) 0 0) 0 [] := by
  subst hg; exact World.ownsRow_lit w #[] 0 hb (by unfold maxLen; omega) rfl

set_option maxHeartbeats 1000000 in
set_option maxRecDepth 100000 in
theorem cloneA_any (A : List Acc) (ad : Option Addr) (cap : Nat) (w : World) (hA : AccsAt w ad A) (hn : A.length ≤ 1000000) :
    Calls Try.prog 78 #[.slice ad A.length cap] w fun e w' => ∃ v, e = .returned v ∧ w'.ownsRow w.heap.size 31 7 v A.length (A.flatMap accC) ∧ Gr w w' := by
  obtain ⟨i0, hi, hz0, hz1, hz2⟩ := info_parts infoAcc
  cases ad with
  | none =>
    have hnil := RowAt.none accC_len (by omega) hA
    subst hnil
    have he : ∀ w : World, (binOp .eql 22 (.slice none 0 cap) (.slice none 0 0)).run Try.prog w = .ok (.bool true) w := fun _ => rfl
    clear hA hi hz0 hz1 hz2 hn
    rw [List.length_nil]
    go_enter Try.func78, Try.ntmps78
    go_wp2
    go_ret
    exact ⟨_, rfl, World.ownsRow_nil _ _ _ _, (by repeat (first | exact Gr.refl _ | refine Gr.alloc ?_ | refine Gr.drew ?_ | refine Gr.trans ?_ (by assumption)))⟩
  | some a =>
    have hnews := (hA.gr ((Gr.refl w).alloc (o := .cells #[] 31))).news
    have HN : Hid (∀ j u, (A.flatMap accC)[j]? = some u → (w.alloc (.cells #[] 31)).cell? (a.add j) = some u) := hnews
    have hln : (A.flatMap accC).length = A.length * 7 := flat_len accC_len A
    have hm1 : 0 + A.length ≤ maxLen := by unfold maxLen; omega
    clear hA hnews
    have he : ∀ w : World, (binOp .eql 22 (.slice (some a) A.length cap) (.slice none 0 0)).run Try.prog w = .ok (.bool false) w := fun _ => rfl
    go_enter Try.func78, Try.ntmps78
    go_wp2_with (first
      | (at_builtin; refine wpList_append_own _ rfl _ _ 22 rfl w.heap.size 31 i0 (.agg #[.string ⟨#[]⟩, .int .i64 0, .int .i64 0, .int .i64 0, .int .i64 0, .int .i64 0, .int .i64 0]) 7 64 Try.underlying22 hi hz0 hz1 hz2 rfl (by decide) _ _ _ rfl (own_litA _ _ _ _ (by simp) (by simp)) a A.length cap (A.flatMap accC) rfl hln HN.out (acc_one A) hm1 (by omega) (by simp) ?_)
      | fail)
    intro v' w1 hown' hgrow _
    have HI : Hid (w1.ownsRow w.heap.size 31 7 v' A.length (A.flatMap accC)) := by
      show World.ownsRow _ _ _ _ _ _ _
      simpa using hown'
    have hb1 : Below w.heap.size w (w.alloc (.cells #[] 31)) := (Below.refl w.heap.size w).alloc (Nat.le_refl _) _
    have HG : Hid (Gr w w1) := ⟨hb1.grown hgrow (by simp) (fun k hk => by simp [Value.ownBlock] at hk; omega)⟩
    clear hown'
    go_wp2
    go_ret
    exact ⟨v', rfl, HI.out, HG.out⟩

set_option maxHeartbeats 1000000 in
set_option maxRecDepth 100000 in
theorem cloneM_any (M : List Mk) (ad : Option Addr) (cap : Nat) (w : World) (hM : MksAt w ad M) (hn : M.length ≤ 1000000) :
    Calls Try.prog 79 #[.slice ad M.length cap] w fun e w' => ∃ v, e = .returned v ∧ w'.ownsRow w.heap.size 64 5 v M.length (M.flatMap mkC) ∧ Gr w w' := by
  obtain ⟨i0, hi, hz0, hz1, hz2⟩ := info_parts infoMk
  cases ad with
  | none =>
    have hnil := RowAt.none mkC_len (by omega) hM
    subst hnil
    have he : ∀ w : World, (binOp .eql 23 (.slice none 0 cap) (.slice none 0 0)).run Try.prog w = .ok (.bool true) w := fun _ => rfl
    clear hM hi hz0 hz1 hz2 hn
    rw [List.length_nil]
    go_enter Try.func79, Try.ntmps79
    go_wp2
    go_ret
    exact ⟨_, rfl, World.ownsRow_nil _ _ _ _, (by repeat (first | exact Gr.refl _ | refine Gr.alloc ?_ | refine Gr.drew ?_ | refine Gr.trans ?_ (by assumption)))⟩
  | some a =>
    have hnews := (hM.gr ((Gr.refl w).alloc (o := .cells #[] 64))).news
    have HN : Hid (∀ j u, (M.flatMap mkC)[j]? = some u → (w.alloc (.cells #[] 64)).cell? (a.add j) = some u) := hnews
    have hln : (M.flatMap mkC).length = M.length * 5 := flat_len mkC_len M
    have hm1 : 0 + M.length ≤ maxLen := by unfold maxLen; omega
    clear hM hnews
    have he : ∀ w : World, (binOp .eql 23 (.slice (some a) M.length cap) (.slice none 0 0)).run Try.prog w = .ok (.bool false) w := fun _ => rfl
    go_enter Try.func79, Try.ntmps79
    go_wp2_with (first
      | (at_builtin; refine wpList_append_own _ rfl _ _ 23 rfl w.heap.size 64 i0 (.agg #[.string ⟨#[]⟩, .int .i64 0, .string ⟨#[]⟩, .int .i64 0, .int .i64 0]) 5 56 Try.underlying23 hi hz0 hz1 hz2 rfl (by decide) _ _ _ rfl (own_litM _ _ _ _ (by simp) (by simp)) a M.length cap (M.flatMap mkC) rfl hln HN.out (mk_one M) hm1 (by omega) (by simp) ?_)
      | fail)
    intro v' w1 hown' hgrow _
    have HI : Hid (w1.ownsRow w.heap.size 64 5 v' M.length (M.flatMap mkC)) := by
      show World.ownsRow _ _ _ _ _ _ _
      simpa using hown'
    have hb1 : Below w.heap.size w (w.alloc (.cells #[] 64)) := (Below.refl w.heap.size w).alloc (Nat.le_refl _) _
    have HG : Hid (Gr w w1) := ⟨hb1.grown hgrow (by simp) (fun k hk => by simp [Value.ownBlock] at hk; omega)⟩
    clear hown'
    go_wp2
    go_ret
    exact ⟨v', rfl, HI.out, HG.out⟩
end Go.Proofs.Ytiakajheoajepaa
