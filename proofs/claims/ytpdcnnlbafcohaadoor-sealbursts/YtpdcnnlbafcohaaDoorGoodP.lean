/- Texts that are all sealed. -/
import Derived.Test.YtpdcnnlbafcohaaDoorSldP
namespace Go.Proofs.YtpdcnnlbafcohaaDoor
open Go.RowKit
theorem seal_good (v : Int) (b : List UInt8) (h0 : 0 ≤ v) (h1 : v ≤ 255) (hb : b.length ≤ 30000) : Sl.sealE v b = (Sl.frame v.toNat b, 0) := by
  unfold Sl.sealE; rw [if_pos ⟨h0, h1⟩, if_pos hb]
theorem catE_cat (v : Int) (l : List (List UInt8)) (h : ∀ b ∈ l, b.length ≤ 30000 ∧ 0 ≤ v ∧ v ≤ 255) : catE v (l.map mkT) = Sl.cat v.toNat l ∧ goodE v (l.map mkT) = true := by
  induction l with
  | nil => exact ⟨rfl, rfl⟩
  | cons b r ih =>
    obtain ⟨i1, i2⟩ := ih (fun x hx => h x (by simp [hx]))
    obtain ⟨hb, h0, h1⟩ := h b (by simp)
    have e : Sl.sealE v (mkT b).data.toList = (Sl.frame v.toNat b, 0) := seal_good v b h0 h1 hb
    refine ⟨?_, ?_⟩
    · rw [Sl.cat_cons, ← i1]
      unfold catE
      rw [List.map_cons, List.flatMap_cons, e]
    · have : goodE v ((b :: r).map mkT) = ((Sl.sealE v (mkT b).data.toList).2 == 0 && goodE v (r.map mkT)) := rfl
      rw [this, e, i2]; rfl
theorem mkT_size (b : List UInt8) : (mkT b).size = b.length := by simp [mkT, ByteArray.size]
end Go.Proofs.YtpdcnnlbafcohaaDoor
