
/- The listed variables, opened; calls that came in, opened; and a start that meets the rows' condition. -/
import Derived.Test.YtmgiiofjlgchfaaDoorRows
import Derived.Test.YtmgiiofjlgchfaaDoorTie
import Derived.Test.YtmgiiofjlgchfaaDoorCards
import Derived.Test.YtmgiiofjlgchfaaDoorWhI
import Derived.ProofKit
import Derived.LaidMore
import Derived.OpenShut
import Derived.ChangeSlices
import Derived.Deep.SlicePairs
import Derived.Stop.LaidErr
import Derived.Lib.LaidTab
import Derived.ShutString
import Derived.SizedLaws
import Derived.Deep.Strs
namespace Go.Proofs.YtmgiiofjlgchfaaDoor
open Go.ChangeShapes Go.WideShapes Go.ChangeAt Go.RowKit

abbrev laidL : List (String × DataW Unit) := [("math/bits.deBruijn32tab", Rows.laid_math_bits_deBruijn32tab), ("math/bits.deBruijn64tab", Rows.laid_math_bits_deBruijn64tab)]
theorem own2 : ownKnob Tryd.prog.godebug = none := by kernel_rfl
theorem laidOut2 : laidOutB Tryd.prog = true := by kernel_rfl
theorem door_met (os : Os) (args : Array Value) : laidMetH Tryd.prog laidL ((World.doorLaid Tryd.prog 400 os).forCall (fun _ _ => 0) ⟨#[], args, []⟩).memory :=
  laidMetH_of_parts3 (fuel := 8) (laidMet_of_run' 8 (by kernel_rfl) (by kernel_rfl)) (by kernel_rfl) (by kernel_rfl)
theorem tab_of_laid {W : World} (h : laidMetH Tryd.prog laidL W) : Tb W := by
  rw [MakeChecks.laidMetH_plain _ _ _ (by kernel_rfl)] at h
  have ht := Lib.tabIs_of_head (zs := Lib.deBruijn64tab.map (fun n : Nat => (n : Int))) (k := .u8) (by kernel_rfl : Tryd.prog.globalNamed "math/bits.deBruijn64tab" = some 1) (by kernel_rfl : (Tryd.prog.globals[1]?).map (·.type) = some 86) Tryd.underlying86 Tryd.underlying5 (by kernel_rfl) (by kernel_rfl) h.tail
  intro j hj
  have := ht.cell (by kernel_rfl : Tryd.prog.globalNamed "math/bits.deBruijn64tab" = some 1) j (by simpa using hj)
  rw [this]
  congr 1
  congr 1
  rw [List.getD_eq_getElem?_getD, List.getD_eq_getElem?_getD, List.getElem?_map, List.getElem?_eq_getElem hj]
  rfl
theorem rng_i64 {n : Int} (h : (Lit.int .i64 n).wf = true) : -9223372036854775808 ≤ n ∧ n ≤ 9223372036854775807 := by
  simp only [Lit.wf, Bool.and_eq_true, decide_eq_true_eq] at h
  exact h
/- calls -/
structure Ac where
  k : Int
  s : ByteArray
  a : Int
def acf (x : Ac) : List Value := [.int .i64 x.k, .string x.s, .int .i64 x.a]
theorem acf_len (x : Ac) : (acf x).length = 3 := rfl
def inAc (x : Ac) : Prop := (-9223372036854775808 ≤ x.k ∧ x.k ≤ 9223372036854775807) ∧ x.s.size ≤ 9223372036854775807 ∧ (-9223372036854775808 ≤ x.a ∧ x.a ≤ 9223372036854775807)
theorem row_of {α : Type} {f : α → List Value} {c : Nat} (hc : ∀ x, (f x).length = c) (h0 : 0 < c) {w : World} {b off : Nat} {L : List α}
    (each : ∀ q (h : q < L.length) r u, (f L[q])[r]? = some u → w.cell? ⟨b, off + (q * c + r), none⟩ = some u) : RowAt f w (some ⟨b, off, none⟩) L := by
  intro j u hu
  have hj : j < (L.flatMap f).length := by
    rcases Nat.lt_or_ge j (L.flatMap f).length with h | h
    · exact h
    · rw [List.getElem?_eq_none h] at hu; cases hu
  rw [flat_len hc] at hj
  have hr : j % c < c := Nat.mod_lt _ h0
  have hq : j / c < L.length := Nat.div_lt_of_lt_mul (by rw [Nat.mul_comm]; exact hj)
  have e : j = j / c * c + j % c := by rw [Nat.mul_comm]; exact (Nat.div_add_mod j c).symm
  rw [e, flat_get hc L (j / c) hq (j % c) hr] at hu
  have h := each (j / c) hq (j % c) u hu
  rw [← e] at h
  exact ⟨b, off, rfl, World.block_lt_of_cell? w _ h, h⟩

theorem open_rows {α : Type} [Inhabited α] {f : α → List Value} {c : Nat} (hc : ∀ x, (f x).length = c) (h0 : 0 < c) {In : α → Prop} {t e : TypeId} (ht : Tryd.prog.underlying t = some (.slice e)) (ce : Tryd.prog.cellsOf e = c)
    {H : Type} {enc : TypeId × Value → H} {W : World} {base : Nat} {sp : Nat → Bool} {held : Bool} {fuel : Nat} {a0 : Option Addr} {len0 cap0 : Nat} {x : DataW H × List MemPlace}
    (elem : ∀ (n : Nat) (cs : List Value) (y : DataW H × List MemPlace), cs.length = c → DataW.trod enc Tryd.prog W base sp held n e cs = some y → ∃ z : α, cs = f z ∧ In z)
    (hf : DataW.trod enc Tryd.prog W base sp held fuel t [.slice a0 len0 cap0] = some x) :
    ∃ L : List α, len0 = L.length ∧ RowAt f W a0 L ∧ L.length ≤ 9223372036854775807 ∧ ∀ y ∈ L, In y := by
  rcases Deep.open_slice ht hf with ⟨hcs, _⟩ | ⟨a, len, cap, m, n, D, Pl, hcs, _, hl, hm, hmm, _, hx⟩
  · simp at hcs
    obtain ⟨rfl, rfl, rfl⟩ := hcs
    exact ⟨[], rfl, RowAt.nil, by simp, by simp⟩
  · simp at hcs
    obtain ⟨rfl, rfl, rfl⟩ := hcs
    have hlm : len0 ≤ m := by rw [hmm]; split <;> omega
    have each : ∀ i, i < len0 → ∃ z : α, (∀ r u, (f z)[r]? = some u → W.cell? (a.add (i * c + r)) = some u) ∧ In z := by
      intro i hi
      obtain ⟨cs, h1, h2⟩ := hx i (by omega)
      rw [ce] at h1
      obtain ⟨_, hlen, hcell⟩ := World.cells?_some h1
      obtain ⟨z, rfl, hz⟩ := elem n cs _ hlen h2
      refine ⟨z, fun r u hu => ?_, hz⟩
      have hr : r < c := by
        rcases Nat.lt_or_ge r (f z).length with h | h
        · rw [hc] at h; exact h
        · rw [List.getElem?_eq_none h] at hu; cases hu
      have c0 := hcell r hr
      rw [Deep.add_add] at c0
      rw [c0, ← hu]
    obtain ⟨g, hg⟩ := Deep.choose_lt each
    unfold maxLen at hm
    refine ⟨(List.range len0).map g, by simp, ?_, by simp; omega, ?_⟩
    · cases len0 with
      | zero => simp; exact RowAt.nil
      | succ l =>
        obtain ⟨b, off, spot⟩ := a
        have h00 : 0 < (f (g 0)).length := by rw [hc]; exact h0
        have hspot : spot = none := by
          have := World.cell?_spot ((hg 0 (by omega)).1 0 _ (List.getElem?_eq_getElem h00))
          simpa [Addr.add] using this
        subst hspot
        refine row_of hc h0 fun q hq r u hu => ?_
        have hq' : q < l + 1 := by simpa using hq
        have := (hg q hq').1 r u (by simpa using hu)
        rwa [Addr.add_lit] at this
    · intro y hy
      obtain ⟨j, hj, rfl⟩ := List.mem_map.1 hy
      exact (hg j (by simpa using hj)).2
set_option maxRecDepth 100000 in
theorem trod_ac {H : Type} {enc : TypeId × Value → H} {W : World} {base : Nat} {sp : Nat → Bool} {held : Bool} (n : Nat) (cs : List Value) (y : DataW H × List MemPlace) (hl : cs.length = 3)
    (h : DataW.trod enc Tryd.prog W base sp held n 33 cs = some y) : ∃ z : Ac, cs = acf z ∧ inAc z := by
  match cs, hl with
  | [v0, v1, v2], _ =>
    obtain ⟨y0, y1, y2, n, _, _, t0, t1, t2⟩ := Deep.trod_struct3 Tryd.underlying33 h
    have k0 : Tryd.prog.cellsOf 3 = 1 := by kernel_rfl
    have k1 : Tryd.prog.cellsOf 9 = 1 := by kernel_rfl
    simp [k0, k1] at t0 t1 t2
    obtain ⟨z0, e0, _, r0⟩ := DataW.trod_int Tryd.underlying3 t0
    obtain ⟨z1, e1, _, r1⟩ := DataW.trod_string Tryd.underlying9 t1
    obtain ⟨z2, e2, _, r2⟩ := DataW.trod_int Tryd.underlying3 t2
    simp at e0 e1 e2
    subst e0 e1 e2
    unfold maxLen at r1
    exact ⟨⟨z0, z1, z2⟩, rfl, rng_i64 r0, (by show z1.size ≤ _; omega), rng_i64 r2⟩
set_option maxRecDepth 100000 in
theorem open_acts {H : Type} {enc : TypeId × Value → H} {W : World} {base : Nat} {v : Value} {d : DataW H} {ps : List MemPlace}
    (hok : Value.okWide Tryd.prog W .any base 22 v) (h : DataW.Trod enc Tryd.prog W 0 (fun _ => true) true 22 v d ps) :
    ∃ ad cap, ∃ T : List Ac, v = .slice ad T.length cap ∧ RowAt acf W ad T ∧ T.length ≤ 9223372036854775807 ∧ ∀ t ∈ T, inAc t := by
  obtain ⟨a0, len0, cap0, rfl⟩ := okWide_slice Tryd.underlying22 hok
  obtain ⟨fuel, hf⟩ := h
  have : Inhabited Ac := ⟨⟨0, ⟨#[]⟩, 0⟩⟩
  obtain ⟨T, rfl, h1, h2, h3⟩ := open_rows acf_len (by decide) Tryd.underlying22 (by kernel_rfl) trod_ac hf
  exact ⟨a0, cap0, T, rfl, h1, h2, h3⟩
set_option maxRecDepth 100000 in
theorem open_a2 {H : Type} {enc : TypeId × Value → H} {W : World} {base : Nat} {v : Value} {d : DataW H} {ps : List MemPlace}
    (hok : Value.okWide Tryd.prog W .any base 62 v) (h : DataW.Trod enc Tryd.prog W 0 (fun _ => true) true 62 v d ps) :
    ∃ x y : Int, v = .agg #[.int .i64 x, .int .i64 y] ∧ (-9223372036854775808 ≤ x ∧ x ≤ 9223372036854775807) ∧ (-9223372036854775808 ≤ y ∧ y ≤ 9223372036854775807) := by
  simp only [Value.okWide, Tryd.underlying62] at hok
  obtain ⟨cs, rfl, hsz, _⟩ := hok
  have hsz2 : cs.size = 2 := hsz.trans (by kernel_rfl)
  obtain ⟨l⟩ := cs
  match l, hsz2 with
  | [a, b], _ =>
    obtain ⟨fuel, hf⟩ := h
    simp only [Value.cells] at hf
    obtain ⟨xs, m, _, _, _, hl, hx⟩ := DataW.trod_array Tryd.underlying62 hf
    have k0 : Tryd.prog.cellsOf 3 = 1 := by kernel_rfl
    have t0 := hx 0 (by omega)
    have t1 := hx 1 (by omega)
    rw [List.getElem?_eq_getElem (by omega)] at t0 t1
    simp [k0] at t0 t1
    obtain ⟨z0, e0, _, r0⟩ := DataW.trod_int Tryd.underlying3 t0
    obtain ⟨z1, e1, _, r1⟩ := DataW.trod_int Tryd.underlying3 t1
    simp at e0 e1
    subst e0 e1
    exact ⟨z0, z1, rfl, rng_i64 r0, rng_i64 r1⟩
end Go.Proofs.YtmgiiofjlgchfaaDoor
