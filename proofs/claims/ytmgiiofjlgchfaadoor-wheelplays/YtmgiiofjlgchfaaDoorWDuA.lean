
/- What is due: keys and times in two rows in memory, beside a wheel. -/
import Derived.Test.YtmgiiofjlgchfaaDoorWhZ
import Derived.Test.YtmgiiofjlgchfaaDoorWDuM
namespace Go.Proofs.YtmgiiofjlgchfaaDoor
open Go.RowKit Go.Maps Go.Sort
open Wh (Tm Sl ks hasK atK del ins put dig whl Inv tlt Up trn upto past upd updT)

def nats (l : List Nat) : List Value := l.map (fun (n : Nat) => .int .i64 (n : Int))
structure Rw2 (w wr : World) (b m : Nat) (V : Vl) (n : Nat) (K : List ByteArray) (A : List Nat) (v8 v9 : Value) : Prop where
  kr : wr.ownsRow w.heap.size 9 1 v8 n (strs K)
  ar : wr.ownsRow w.heap.size 3 1 v9 n (nats A)
  ko : OffW b m V v8
  ao : OffW b m V v9
theorem Rw2.klen {w wr : World} {b m : Nat} {V : Vl} {n : Nat} {K : List ByteArray} {A : List Nat} {v8 v9 : Value} (h : Rw2 w wr b m V n K A v8 v9) : K.length = n ∧ A.length = n := by
  have h1 := h.kr.1
  have h2 := h.ar.1
  simp only [strs, nats, List.length_map, Nat.mul_one] at h1 h2
  exact ⟨h1, h2⟩
theorem Rw2.tn {w wr w' : World} {b m : Nat} {V V' : Vl} {n : Nat} {K : List ByteArray} {A : List Nat} {v8 v9 : Value} (h : Rw2 w wr b m V n K A v8 v9) (k : Tn wr w' b m V V') : Rw2 w w' b m V' n K A v8 v9 := by
  have off : ∀ {e : TypeId} {xs : List Value} {v : Value}, wr.ownsRow w.heap.size e 1 v n xs → OffW b m V v → OffW b m V' v := fun hr ho j hj hc => by
    rcases k.new j hc with h1 | h1
    · exact ho j hj h1
    · have := (hr.lt j hj).2; omega
  exact ⟨row_keep h.kr (fun j hj => k.block j (h.kr.lt j hj).2 (h.ko j hj)), row_keep h.ar (fun j hj => k.block j (h.ar.lt j hj).2 (h.ao j hj)), off h.kr h.ko, off h.ar h.ao⟩
theorem Rw2.gr {w wr w' : World} {b m : Nat} {V : Vl} {n : Nat} {K : List ByteArray} {A : List Nat} {v8 v9 : Value} (h : Rw2 w wr b m V n K A v8 v9) (g : Gr wr w') : Rw2 w w' b m V n K A v8 v9 := h.tn (Tn.gr g)
/- the two rows are two -/
theorem Rw2.ne {w wr : World} {b m : Nat} {V : Vl} {n : Nat} {K : List ByteArray} {A : List Nat} {v8 v9 : Value} (h : Rw2 w wr b m V n K A v8 v9) {j : Nat} (h8 : v8.ownBlock = some j) (h9 : v9.ownBlock = some j) : False := by
  obtain ⟨_, ⟨rfl, _⟩ | ⟨g, cap, cur, rfl, _, e8, _⟩⟩ := h.kr
  · cases h8
  · obtain ⟨_, ⟨rfl, _⟩ | ⟨g', cap', cur', rfl, _, e9, _⟩⟩ := h.ar
    · cases h9
    · have e1 : g = j := by simpa [Value.ownBlock] using h8
      have e2 : g' = j := by simpa [Value.ownBlock] using h9
      subst e1
      subst e2
      rw [e8] at e9
      cases e9
theorem Rw2.key {w wr : World} {b m : Nat} {V : Vl} {n : Nat} {K : List ByteArray} {A : List Nat} {v8 v9 : Value} (h : Rw2 w wr b m V n K A v8 v9) {j : Nat} {k : ByteArray} (hk : K[j]? = some k) : ∃ g c, v8 = .slice (some ⟨g, 0, none⟩) n c ∧ wr.cell? ⟨g, j, none⟩ = some (.string k) := by
  have hc := fun g (hg : v8.ownBlock = some g) => h.kr.cells hg
  have hl := h.klen.1
  obtain ⟨_, ⟨rfl, h0⟩ | ⟨g, cap, cur, rfl, _⟩⟩ := h.kr
  · subst h0
    rw [List.length_eq_zero_iff.1 hl] at hk
    cases hk
  · refine ⟨g, cap, rfl, ?_⟩
    have := hc g rfl j (.string k) (by simp [strs, hk])
    rw [Addr.add_lit, Nat.zero_add] at this
    exact this
theorem Rw2.time {w wr : World} {b m : Nat} {V : Vl} {n : Nat} {K : List ByteArray} {A : List Nat} {v8 v9 : Value} (h : Rw2 w wr b m V n K A v8 v9) {j a : Nat} (ha : A[j]? = some a) : ∃ g c, v9 = .slice (some ⟨g, 0, none⟩) n c ∧ wr.cell? ⟨g, j, none⟩ = some (.int .i64 (a : Int)) ∧ wr.frozen? ⟨g, j, none⟩ = false := by
  have hc := fun g (hg : v9.ownBlock = some g) => h.ar.cells hg
  have hl := h.klen.2
  have har := h.ar
  obtain ⟨_, ⟨rfl, h0⟩ | ⟨g, cap, cur, rfl, _⟩⟩ := h.ar
  · subst h0
    rw [List.length_eq_zero_iff.1 hl] at ha
    cases ha
  · refine ⟨g, cap, rfl, ?_, har.frozenAt j⟩
    have := hc g rfl j (.int .i64 (a : Int)) (by simp [nats, ha])
    rw [Addr.add_lit, Nat.zero_add] at this
    exact this
theorem Rw2.store {w wr : World} {b m : Nat} {V : Vl} {n : Nat} {K : List ByteArray} {A : List Nat} {v8 : Value} {g c : Nat} (h : Rw2 w wr b m V n K A v8 (.slice (some ⟨g, 0, none⟩) n c)) (j a : Nat) :
    Rw2 w (wr.setCell ⟨g, j, none⟩ (.int .i64 (a : Int))) b m V n K (A.set j a) v8 (.slice (some ⟨g, 0, none⟩) n c) := by
  obtain ⟨h1, h2⟩ := h.ar.stored j (.int .i64 (a : Int))
  refine ⟨row_keep h.kr (fun i hi => h2.block i (h.kr.lt i hi).2 (fun e => ?_)), ?_, h.ko, h.ao⟩
  · injection e with e
    subst e
    exact h.ne hi rfl
  · have e : nats (A.set j a) = (nats A).set j (.int .i64 (a : Int)) := by simp [nats, List.map_set]
    rw [e]; exact h1
theorem Wl.stored {a w : World} {b m t : Nat} {L : List Tm} {S : Sl} {V : Vl} (h : Wl a w b m t L S V) {g j : Nat} (u : Value) (hg : ¬ own b m V g) (hl : a.heap.size ≤ g) : Wl a (w.setCell ⟨g, j, none⟩ u) b m t L S V :=
  ⟨h.wa.grown (World.grownBy.mk (row := some g) rfl rfl rfl (by simp [World.setCell]) (fun k _ hk => heap_set_ne _ _ _ _ (fun e => hk (by rw [e])))) (fun j hj => by cases hj; exact hg), h.iv, ⟨h.gr.below.setCell hl u⟩, h.low⟩
theorem Wl.grownOff {a w w' : World} {b m t : Nat} {L : List Tm} {S : Sl} {V : Vl} {r : Option Nat} (h : Wl a w b m t L S V) (g : w.grownBy w' r) (hr : ∀ j, r = some j → ¬ own b m V j ∧ a.heap.size ≤ j) : Wl a w' b m t L S V :=
  ⟨h.wa.grown g (fun j hj => (hr j hj).1), h.iv, h.gr.grown g (fun j hj => (hr j hj).2), h.low⟩
/- appended to -/
theorem Rw2.push {w wr w1 w2 : World} {b m t : Nat} {L : List Tm} {S : Sl} {V : Vl} {n : Nat} {K : List ByteArray} {A : List Nat} {v8 v9 u8 u9 : Value} {k : ByteArray} {a : Nat} {o1 o2 : Obj} (h : Rw2 w wr b m V n K A v8 v9) (hw : WAt wr b m t L S V)
    (g1 : World.grownBy (wr.alloc o1) w1 v8.ownBlock) (r1 : w1.ownsRow w.heap.size 9 1 u8 (n + 1) (strs K ++ [.string k])) (l1 : u8.ownBlock = v8.ownBlock ∨ u8.ownBlock = some (World.heap (wr.alloc o1)).size)
    (g2 : World.grownBy (w1.alloc o2) w2 v9.ownBlock) (r2 : w2.ownsRow w.heap.size 3 1 u9 (n + 1) (nats A ++ [.int .i64 (a : Int)])) (l2 : u9.ownBlock = v9.ownBlock ∨ u9.ownBlock = some (World.heap (w1.alloc o2)).size) :
    Rw2 w w2 b m V (n + 1) (K ++ [k]) (A ++ [a]) u8 u9 := by
  have hlt : ∀ j, own b m V j → j < wr.heap.size := fun j hj => hw.own_lt hj
  have hs1 := g1.size
  simp only [World.size_alloc] at hs1
  have hu8 : ∀ j, u8.ownBlock = some j → v8.ownBlock = some j ∨ wr.heap.size < j := fun j hj => by
    rcases l1 with e | e
    · exact Or.inl (by rw [← e]; exact hj)
    · rw [e] at hj; injection hj with hj; simp only [World.size_alloc] at hj; exact Or.inr (by omega)
  refine ⟨?_, ?_, fun j hj hc => ?_, fun j hj hc => ?_⟩
  · have e : strs (K ++ [k]) = strs K ++ [.string k] := by simp [strs]
    rw [e]
    refine row_keep r1 (fun j hj => ?_)
    have hj1 := (r1.lt j hj).2
    rw [g2.block j (by simp only [World.size_alloc]; omega) (fun e => ?_), Below.heap_alloc _ _ _ hj1]
    rcases hu8 j hj with h5 | h5
    · exact h.ne h5 e.symm
    · have := (h.ar.lt j e.symm).2; omega
  · have e : nats (A ++ [a]) = nats A ++ [.int .i64 (a : Int)] := by simp [nats]
    rw [e]; exact r2
  · rcases hu8 j hj with h5 | h5
    · exact h.ko j h5 hc
    · have := hlt j hc; omega
  · have hc' := hlt j hc
    rcases l2 with e | e
    · exact h.ao j (by rw [← e]; exact hj) hc
    · rw [e] at hj; injection hj with hj; simp only [World.size_alloc] at hj; omega
end Go.Proofs.YtmgiiofjlgchfaaDoor
