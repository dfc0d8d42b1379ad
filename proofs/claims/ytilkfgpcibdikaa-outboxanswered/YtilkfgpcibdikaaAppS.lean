
/- append at a step of a region that draws its order; a row that is owned from a lower base on. -/
import Derived.Test.YtilkfgpcibdikaaIntA
import Derived.Deep.RegionHeld3
namespace Go.Proofs.Ytilkfgpcibdikaa
open Go.RowKit

theorem step_append_own {P : Program} {w : World} {ops : Array Oper} {o : Oper} {a : Act} {K : Act → World → Prop} {Q : Exit → Act → World → Prop} {E : Prop} (hgd : o.guard = none) (s x : Operand) (t : TypeId)
    (ho : o.op = .call { callee := .builtin .append, args := #[s, x], argTypes := #[t, t] })
    (base : Nat) (e : TypeId) (i : TypeInfo) (z : Value) (size bytes : Nat) (ht : P.underlying t = some (.slice e)) (hi : P.info? e = some i) (hz : i.zero = some z)
    (hsize : i.size = size) (hby : i.bytes = bytes) (hzs : z.cells.size = size) (hsz : 0 < size)
    (v : Value) (n : Nat) (xs : List Value) (hs : a.eval s = v) (hown : w.ownsRow base e size v n xs)
    (ad : Addr) (m c : Nat) (news : List Value) (hx : a.eval x = .slice (some ad) m c) (hl : news.length = m * size) (hnews : ∀ j u, news[j]? = some u → w.cell? (ad.add j) = some u) (h1 : ∀ u ∈ news, u.oneCell' = true)
    (h63 : n + m ≤ maxLen) (hbytes : (n + m) * bytes ≤ 140737488355328) (hbase : base ≤ w.heap.size)
    (h : ∀ v' w', w'.ownsRow base e size v' (n + m) (xs ++ news) → w.grownBy w' v.ownBlock → (v' = .slice none 0 0 ↔ v = .slice none 0 0 ∧ m = 0) → K (a.put o.dst v') w') :
    if Region.wanted o (yielded ops a.tmps) = true then Oper.wp P o a w K Q else E := by
  have hw : Region.wanted o (yielded ops a.tmps) = true := by simp [Region.wanted, hgd]
  rw [if_pos hw]
  exact wp_append_own w s x t ho base e i z size bytes ht hi hz hsize hby hzs hsz v n xs hs hown ad m c news hx hl hnews h1 h63 hbytes hbase h

theorem own_low {w : World} {base base' : Nat} {e : TypeId} {size n : Nat} {v : Value} {xs : List Value} (h : w.ownsRow base e size v n xs) (hb : base' ≤ base) : w.ownsRow base' e size v n xs := by
  obtain ⟨h1, ⟨rfl, h2⟩ | ⟨g, cap, cur, rfl, h3, h4⟩⟩ := h
  · exact ⟨h1, Or.inl ⟨rfl, h2⟩⟩
  · exact ⟨h1, Or.inr ⟨g, cap, cur, rfl, Nat.le_trans hb h3, h4⟩⟩
theorem Gr.grown {a b c : World} (h : Gr a b) {r : Option Nat} (k : b.grownBy c r) (hr : ∀ g, r = some g → a.heap.size ≤ g) : Gr a c := ⟨h.below.grown k h.below.size hr⟩
theorem hold8 {a b : World} (g : Gr a b) {q0 q1 q2 q3 r0 r1 r2 r3 : Addr} {v0 v1 v2 v3 u0 u1 u2 u3 : Value} (h0 : a.cell? q0 = some v0) (h1 : a.cell? q1 = some v1) (h2 : a.cell? q2 = some v2) (h3 : a.cell? q3 = some v3) (k0 : a.cell? r0 = some u0) (k1 : a.cell? r1 = some u1) (k2 : a.cell? r2 = some u2) (k3 : a.cell? r3 = some u3) :
    Gr a b ∧ b.cell? q0 = some v0 ∧ b.cell? q1 = some v1 ∧ b.cell? q2 = some v2 ∧ b.cell? q3 = some v3 ∧ b.cell? r0 = some u0 ∧ b.cell? r1 = some u1 ∧ b.cell? r2 = some u2 ∧ b.cell? r3 = some u3 := ⟨g, g.keep h0, g.keep h1, g.keep h2, g.keep h3, g.keep k0, g.keep k1, g.keep k2, g.keep k3⟩
end Go.Proofs.Ytilkfgpcibdikaa
