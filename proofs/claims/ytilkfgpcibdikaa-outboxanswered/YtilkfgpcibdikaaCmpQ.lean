
/- Cmp of two ids. -/
import Derived.Test.YtilkfgpcibdikaaCmpP
namespace Go.Proofs.Ytilkfgpcibdikaa
open Go.RowKit

set_option maxHeartbeats 2000000 in
set_option maxRecDepth 100000 in
theorem cmp_any (r n : Int) (L : List (Int × Int)) (ad : Option Addr) (cap : Nat) (r2 n2 : Int) (M : List (Int × Int)) (ad2 : Option Addr) (cap2 : Nat) (w : World) (hL : HopsAt w ad L) (hM : HopsAt w ad2 M) (hn : L.length ≤ 9223372036854775807) (hm : M.length ≤ 9223372036854775807) :
    Calls Try.prog 57 #[.agg #[.int .i64 r, .int .i64 n, .slice ad L.length cap], .agg #[.int .i64 r2, .int .i64 n2, .slice ad2 M.length cap2]] w fun e w' => e = .returned (.int .i64 (Idn.cmpE r n L r2 n2 M)) ∧ Gr w w' := by
  have HE : Hid (Idn.cmpE r n L r2 n2 M = orL [Idn.cmpI r r2, Idn.cmpI n n2, Idn.cmpH L M]) := by
    show _ = _
    unfold Idn.cmpE orL orL orL orL Idn.orI
    split <;> (try split) <;> (try split) <;> omega
  have HC : Hid (∀ (a b : Int) (w' : World), Calls Try.prog 63 #[.int .i64 a, .int .i64 b] w' fun e w2 => e = .returned (.int .i64 (Idn.cmpI a b)) ∧ w2 = w') := compare_any
  have H3 : Hid (∀ (a b c : Int) (w' : World) (g : Nat), IntsAt w' (some ⟨g, 0, none⟩) [a, b, c] → Calls Try.prog 62 #[.slice (some ⟨g, 0, none⟩) 3 3] w' fun e w2 => e = .returned (.int .i64 (orL [a, b, c])) ∧ w2 = w') := fun a b c w' g h => or_any [a, b, c] _ 3 w' h (by simp)
  have HF : Hid (∀ w', Gr w w' → Calls Try.prog 64 #[.slice ad L.length cap, .slice ad2 M.length cap2, .func (.func 65) #[] #[]] w' fun e w2 => e = .returned (.int .i64 (Idn.cmpH L M)) ∧ Gr w' w2) := fun w' g => compareFunc_any L M ad ad2 cap cap2 w' (hL.gr g) (hM.gr g) hn hm
  clear hL hM
  go_enter Try.func57, Try.ntmps57
  go_wp2
  go_region_held3 (fun w' => Gr w w' ∧ w'.cell? ⟨w.heap.size, 0, none⟩ = some (.int .i64 r) ∧ w'.cell? ⟨w.heap.size, 1, none⟩ = some (.int .i64 n) ∧ w'.cell? ⟨w.heap.size, 2, none⟩ = some (.slice ad L.length cap) ∧ w'.cell? ⟨w.heap.size + 1, 0, none⟩ = some (.int .i64 r2) ∧ w'.cell? ⟨w.heap.size + 1, 1, none⟩ = some (.int .i64 n2) ∧ w'.cell? ⟨w.heap.size + 1, 2, none⟩ = some (.slice ad2 M.length cap2))
    ((go_split_ands; refine ⟨?_, ?_, ?_, ?_, ?_, ?_, ?_⟩ <;> first | assumption | go_keep | exact Gr.keep (by assumption) (by assumption) | exact (by repeat (first | exact Gr.refl _ | refine Gr.alloc ?_ | refine Gr.drew ?_ | refine Gr.trans ?_ (by assumption)))))
    ((first | (go_at_call 63; refine (HC.out _ _ _).mono ?_; rintro e w2 ⟨rfl, rfl⟩) | (go_at_call 64; refine (HF.out _ ?_).mono ?_; (go_split_ands; exact (by repeat (first | exact Gr.refl _ | refine Gr.alloc ?_ | refine Gr.drew ?_ | refine Gr.trans ?_ (by assumption)))); rintro e w2 ⟨rfl, hg2⟩) | (go_at_call 62; refine (H3.out (Idn.cmpI r r2) (Idn.cmpI n n2) (Idn.cmpH L M) _ _ ?_).mono ?_; (exact ints_lit3 _ _ _ _ _ _ (by simp)); rintro e w2 ⟨rfl, rfl⟩)))
  all_goals go_wp2
  all_goals go_ret
  all_goals exact ⟨by rw [HE.out]; rfl, (by repeat (first | exact Gr.refl _ | refine Gr.alloc ?_ | refine Gr.drew ?_ | refine Gr.trans ?_ (by assumption)))⟩
end Go.Proofs.Ytilkfgpcibdikaa
