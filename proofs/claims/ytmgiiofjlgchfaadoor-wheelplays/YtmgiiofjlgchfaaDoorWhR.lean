
/- wheel: New. -/
import Derived.Test.YtmgiiofjlgchfaaDoorWhQ
namespace Go.Proofs.YtmgiiofjlgchfaaDoor
open Go.RowKit Go.Maps
open Wh (Tm Sl ks hasK atK del ins put dig whl)

/- what New makes -/
def V0 : Vl := fun _ _ => .slice none 0 0
def S0 : Sl := fun _ _ => []
def cells0 (x y : Value) : Array Value := (x :: y :: List.replicate 192 (.slice none 0 0)).toArray
theorem cells0_get (x y : Value) (o : Nat) (h : o < 194) : (cells0 x y)[o]? = some (if o = 0 then x else if o = 1 then y else .slice none 0 0) := by
  unfold cells0
  rw [List.getElem?_toArray]
  match o, h with
  | 0, _ => rfl
  | 1, _ => rfl
  | o + 2, h => rw [List.getElem?_cons_succ, List.getElem?_cons_succ, List.getElem?_replicate, if_pos (by omega), if_neg (by omega), if_neg (by omega)]
theorem WAt.new (w : World) (t : Nat) (T : TypeId) : WAt ((w.alloc (.map #[] 0)).alloc (.cells (cells0 (.int .i64 (t : Int)) (.map (some w.heap.size))) T)) (w.heap.size + 1) w.heap.size t [] S0 V0 := by
  have hc : ∀ o, o < 194 → ((w.alloc (.map #[] 0)).alloc (.cells (cells0 (.int .i64 (t : Int)) (.map (some w.heap.size))) T)).cell? ⟨w.heap.size + 1, o, none⟩ = some (if o = 0 then (.int .i64 (t : Int)) else if o = 1 then (.map (some w.heap.size)) else .slice none 0 0) := by
    intro o ho
    rw [← cells0_get _ _ o ho]
    exact World.cell?_alloc2_new _ _ _ _
  have hm : ((w.alloc (.map #[] 0)).alloc (.cells (cells0 (.int .i64 (t : Int)) (.map (some w.heap.size))) T)).ownsMap Tryd.prog 9 (plainElem (H := Unit) Tryd.prog 3) w.heap.size 0 (.map []) := (World.ownsMap_made w Tryd.prog 9 _).alloc _
  refine ⟨hc 0 (by omega), hc 1 (by omega), ?_, ?_, ⟨_, hm, Rep.nil⟩, ?_, ?_, ?_⟩
  · intro o ho
    exact World.frozen?_alloc2_new _ _ _ _
  · intro g d hg hd
    rw [hc _ (by omega), if_neg (by omega), if_neg (by omega)]; rfl
  · intro g d hg hd
    exact World.ownsRow_nil _ _ _ _
  · intro g d g' d' j _ _ _ _ h; cases h
  · intro g d _ _; exact ⟨by simp [V0, Value.ownBlock], by simp [V0, Value.ownBlock]⟩
set_option maxHeartbeats 2000000 in
set_option maxRecDepth 100000 in
theorem new_no (n : Int) (w : World) (h : n < 0 ∨ 1000000000 < n) :
    Calls Tryd.prog 9 #[.int .i64 n] w fun e w' => e = .returned (.tuple #[.pointer none, .int .i64 2]) ∧ w' = w := by
  rcases h with h | h
  · go_enter Tryd.func9, Tryd.ntmps9
    go_wp2
    go_ret2
    exact ⟨rfl, rfl⟩
  · have h' : ¬ n < 0 := by omega
    go_enter Tryd.func9, Tryd.ntmps9
    go_wp2
    go_ret2
    exact ⟨rfl, rfl⟩
set_option maxHeartbeats 4000000 in
set_option maxRecDepth 100000 in
theorem new_yes {t : Nat} (w : World) (h : t ≤ 1000000000) :
    Calls Tryd.prog 9 #[.int .i64 (t : Int)] w fun e w' => e = .returned (.tuple #[ptr (w.heap.size + 1), .int .i64 0]) ∧ WAt w' (w.heap.size + 1) w.heap.size t [] S0 V0 ∧ Gr w w' := by
  have hmm := @run_makeMap Tryd.prog
  have HW := fun T => WAt.new w t T
  have HC : Hid (cells0 (.int .i64 (t : Int)) (.map (some w.heap.size)) = (Tryd.zeroCells56.setIfInBounds 0 (.int .i64 (t : Int))).setIfInBounds 1 (.map (some w.heap.size))) := by
    show _ = _
    kernel_rfl
  rw [HC.out] at HW
  have HW' : Hid (∀ T, WAt _ _ _ _ _ _ _) := HW
  clear HW
  go_enter Tryd.func9, Tryd.ntmps9
  go_wp2
  go_ret2
  exact ⟨rfl, HW'.out _, (Gr.refl _).alloc.alloc⟩
end Go.Proofs.YtmgiiofjlgchfaaDoor
