/- The law IdentOrder, where the ids have too many hops; small laws for the other case. -/
import Derived.Test.YtmidlcipbpchgaaDoorLaidR
import Derived.Test.YtmidlcipbpchgaaDoorOpenI
import Derived.Test.YtmidlcipbpchgaaDoorAwk3
import Derived.Test.YtmidlcipbpchgaaDoorRCmpP
import Derived.Test.YtmidlcipbpchgaaDoorFewP
import Derived.Test.YtmidlcipbpchgaaDoorOrdM
import Derived.SevenTiedAt
namespace Go.Proofs.YtmidlcipbpchgaaDoor
open Go.ChangeShapes Go.WideShapes Go.ChangeAt Go.RowKit
open Go.ChangeMaps (open_string shut_string)

theorem lens_lit3 (w : World) (a1 b1 a2 b2 a3 b3 : Value) (d1 d2 d3 : Option Addr) (l1 l2 l3 c1 c2 c3 : Nat) (t : TypeId) (g : Nat) (hg : g = w.heap.size) :
    LensAt (w.alloc (.cells #[a1, b1, .slice d1 l1 c1, a2, b2, .slice d2 l2 c2, a3, b3, .slice d3 l3 c3] t)) (some ⟨g, 0, none⟩) [l1, l2, l3] := by
  subst hg
  intro j hj
  match j, hj with
  | 0, _ => exact ⟨_, _, rfl, by simp, d1, c1, by simp⟩
  | 1, _ => exact ⟨_, _, rfl, by simp, d2, c2, by simp⟩
  | 2, _ => exact ⟨_, _, rfl, by simp, d3, c3, by simp⟩

theorem beg_self (L M : List (Int × Int)) : begB (L ++ M) L = true := by
  induction L with
  | nil => cases M <;> rfl
  | cons x t ih => rw [List.cons_append, begB, ih]; simp
theorem beg_long (L : List (Int × Int)) (h : Int × Int) : begB L (L ++ [h]) = false := by
  induction L with
  | nil => rfl
  | cons x t ih => rw [List.cons_append, begB, ih, Bool.and_false]
theorem under_yes (r n : Int) (M : List (Int × Int)) (h : Int × Int) (ad : Option Addr) (cap : Nat) : underB r n (M ++ [h]) [⟨r, n, M, ad, cap⟩] = true := by
  simp [underB, topB, beg_self]
theorem under_no (r n : Int) (M : List (Int × Int)) (h : Int × Int) (ad : Option Addr) (cap : Nat) : underB r n M [⟨r, n, M ++ [h], ad, cap⟩] = false := by
  simp [underB, topB, beg_long]

set_option maxHeartbeats 20000000 in
set_option maxRecDepth 100000 in
theorem identOrder_many (r1 n1 : Int) (L1 : List (Int × Int)) (ad1 : Option Addr) (cap1 : Nat) (r2 n2 : Int) (L2 : List (Int × Int)) (ad2 : Option Addr) (cap2 : Nat) (r3 n3 : Int) (L3 : List (Int × Int)) (ad3 : Option Addr) (cap3 : Nat)
    (w : World) (he : Env w) (hf' : fewB [L1.length, L2.length, L3.length] = false) (hn1 : L1.length ≤ 9223372036854775807) (hn2 : L2.length ≤ 9223372036854775807) (hn3 : L3.length ≤ 9223372036854775807) :
    Calls Tryd.prog 8 #[.agg #[.int .i64 r1, .int .i64 n1, .slice ad1 L1.length cap1], .agg #[.int .i64 r2, .int .i64 n2, .slice ad2 L2.length cap2], .agg #[.int .i64 r3, .int .i64 n3, .slice ad3 L3.length cap3]] w fun e w' => e = .returned (.bool true) ∧ Gr w w' := by
  have HA : Hid (∀ w', Gr w w' → Calls Tryd.prog 16 #[] w' fun e w2 => e = .returned (.bool true) ∧ Gr w' w2) := fun w' g => awake_any w' (he.gr g)
  have HF : Hid (∀ (w' : World) (g : Nat), LensAt w' (some ⟨g, 0, none⟩) [L1.length, L2.length, L3.length] → Calls Tryd.prog 17 #[.slice (some ⟨g, 0, none⟩) 3 3] w' fun e w2 => e = .returned (.bool (fewB [L1.length, L2.length, L3.length])) ∧ w2 = w') := fun w' g h => few_any [L1.length, L2.length, L3.length] _ 3 w' h (by simp) (by simp; omega)
  · rw [hf'] at HF
    clear he hf'
    go_enter Tryd.func8, Tryd.ntmps8
    go_wp2_with fail
    refine (HF.out _ _ (lens_lit3 _ _ _ _ _ _ _ _ _ _ _ _ _ _ _ _ _ _ (by simp))).mono ?_
    rintro e1 w1 ⟨rfl, hw1⟩; obtain rfl := hw1.symm
    go_wp2_with fail
    refine (HA.out _ ?_).mono ?_
    · exact (by repeat (first | exact Gr.refl _ | refine Gr.alloc ?_ | refine Gr.drew ?_ | refine Gr.trans ?_ (by assumption)))
    rintro e2 w2 ⟨rfl, hg2⟩
    go_wp2
    go_ret
    exact ⟨rfl, (by repeat (first | exact Gr.refl _ | refine Gr.alloc ?_ | refine Gr.drew ?_ | refine Gr.trans ?_ (by assumption)))⟩
end Go.Proofs.YtmidlcipbpchgaaDoor
