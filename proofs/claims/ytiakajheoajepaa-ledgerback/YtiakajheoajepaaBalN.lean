/- What Net tells of all keys is what is in effect. -/
import Derived.Test.YtiakajheoajepaaBalM
import Derived.Test.YtiakajheoajepaaNetD
namespace Go.Proofs.Ytiakajheoajepaa
open Led (Acc Mk)

theorem eff_all (s : ByteArray) (m : Mk) : effB s ⟨#[]⟩ m = Led.eff s m := by
  unfold effB Led.eff
  have : Lib.hasPrefix m.key.data.toList (⟨#[]⟩ : ByteArray).data.toList = true := rfl
  rw [this, Bool.and_true]
theorem net_all (s : ByteArray) : ∀ M : List Mk, Csh.sumE (fsL s ⟨#[]⟩ M) = Led.sm (Led.gNF s) M ∧ Csh.sumE (ksL s ⟨#[]⟩ M) = Led.sm (Led.gNK s) M
  | [] => ⟨rfl, rfl⟩
  | m :: t => by
    obtain ⟨h1, h2⟩ := net_all s t
    have e1 : Led.sm (Led.gNF s) (m :: t) = Led.gNF s m + Led.sm (Led.gNF s) t := rfl
    have e2 : Led.sm (Led.gNK s) (m :: t) = Led.gNK s m + Led.sm (Led.gNK s) t := rfl
    rw [e1, e2, ← h1, ← h2]
    unfold fsL ksL Led.gNF Led.gNK
    rw [List.filter_cons, eff_all]
    cases Led.eff s m with
    | true => exact ⟨rfl, rfl⟩
    | false => simp
end Go.Proofs.Ytiakajheoajepaa
