
/- Small laws for walks: 'Gr w w': nothing that lay in w has turned in w', which may hold more; wraps; bytes made strings. -/
import Derived.Test.YtilkfgpcibdikaaProg
import Derived.Test.YtilkfgpcibdikaaMath
import Derived.WalkKit
import Derived.WalkSpells
import Derived.WalkLawsBesides
import Derived.Laws.IdiomStrings
import Derived.Lib.UnsafeStr
import Derived.KernelRfl
import Derived.Deep.RegionWith
import Derived.Deep.DrawnRows
namespace Go.Proofs.Ytilkfgpcibdikaa
open Go.RowKit

structure Gr (w w' : World) : Prop where
  below : Below w.heap.size w w'
theorem Gr.refl (w : World) : Gr w w := ⟨Below.refl _ _⟩
theorem Gr.trans {a b c : World} (h : Gr a b) (k : Gr b c) : Gr a c := ⟨h.below.trans (k.below.mono h.below.size)⟩
theorem Gr.alloc {a b : World} (h : Gr a b) {o : Obj} : Gr a (b.alloc o) := ⟨h.below.alloc h.below.size _⟩
theorem Gr.drew {a b : World} (h : Gr a b) : Gr a b.drew := ⟨h.below.drew⟩
theorem Gr.r (w : World) : Gr w w := Gr.refl w
theorem Gr.a {a b : World} (h : Gr a b) {o : Obj} : Gr a (b.alloc o) := h.alloc
theorem Gr.d {a b : World} (h : Gr a b) : Gr a b.drew := h.drew
theorem Gr.t {a b c : World} (h : Gr a b) (k : Gr b c) : Gr a c := h.trans k
theorem Gr.size {a b : World} (h : Gr a b) : a.heap.size ≤ b.heap.size := h.below.size
theorem Gr.cells {W w1 : World} (h : Gr W w1) : (∀ b o, b < W.heap.size → w1.cell? ⟨b, o, none⟩ = W.cell? ⟨b, o, none⟩) ∧ (∀ b o, b < W.heap.size → w1.frozen? ⟨b, o, none⟩ = W.frozen? ⟨b, o, none⟩) :=
  ⟨fun b o hb => h.below.cell (p := ⟨b, o, none⟩) hb, fun b o hb => h.below.frozen (p := ⟨b, o, none⟩) hb⟩
theorem Gr.of {w w' : World} (h : Below w.heap.size w w') : Gr w w' := ⟨h⟩

theorem w64 (n : Int) (h0 : 0 ≤ n) (h1 : n < 18446744073709551616) : IntKind.u64.wrap n = n := by rw [IntKind.wrap_u64]; omega
theorem w8 (n : Int) (h0 : 0 ≤ n) (h1 : n < 256) : IntKind.u8.wrap n = n := by rw [IntKind.wrap_u8]; omega

theorem info5 : (Try.prog.info? 5).map (fun i => (i.zero, i.size, i.bytes)) = some (some (.int .u8 0), 1, 1) := by kernel_rfl

/- a row of bytes that the call owns, made a string -/
theorem own_string {base : Nat} {v : Value} {n : Nat} {l : List UInt8} {w : World} (h : w.ownsRow base 5 1 v n (Lib.byteCells l)) (hl : l ≠ []) :
    (convert 84 9 v).run Try.prog w = .ok (.string ⟨l.toArray⟩) w := by
  have hcell := fun g (hg : v.ownBlock = some g) => h.cells hg
  obtain ⟨hlen, hv | ⟨g, cap, cur, rfl, _⟩⟩ := h
  · obtain ⟨_, rfl⟩ := hv
    simp [Lib.byteCells] at hlen
    exact absurd hlen hl
  · have e : n = l.length := by simpa [Lib.byteCells] using hlen.symm
    subst e
    refine run_convert_bytes_back w 84 9 5 ⟨g, 0, none⟩ cap l Try.underlying84 Try.underlying5 Try.underlying9 ?_
    intro j hj
    exact hcell g rfl j _ (by simp [Lib.byteCells, hj])

theorem byteCells_snoc (l : List UInt8) (b : UInt8) : Lib.byteCells (l ++ [b]) = Lib.byteCells l ++ [.int .u8 (b.toNat : Int)] := by simp [Lib.byteCells]

/- one byte in a block, made a string -/
theorem conv1 (w : World) (b : Nat) (x : Nat) (hx : x < 256) (h : w.cell? ⟨b, 0, none⟩ = some (.int .u8 (x : Int))) :
    (convert 84 9 (.slice (some ⟨b, 0, none⟩) 1 1)).run Try.prog w = .ok (.string ⟨#[UInt8.ofNat x]⟩) w := by
  have := run_convert_bytes_back (P := Try.prog) w 84 9 5 ⟨b, 0, none⟩ 1 [UInt8.ofNat x] Try.underlying84 Try.underlying5 Try.underlying9 (by
    intro j hj
    simp at hj; subst hj
    simpa [Addr.add, Nat.mod_eq_of_lt hx] using h)
  simpa using this

/- two strings joined -/
theorem add_lists (x y : List UInt8) (h : x.length + y.length ≤ 9223372036854775807) (w : World) : (Op.stringOp .add ⟨x.toArray⟩ ⟨y.toArray⟩).run Try.prog w = .ok (.string ⟨(x ++ y).toArray⟩) w := by
  rw [run_string_add_sum w _ _ (by simpa [ByteArray.size] using h), ByteArray.mk_append_mk]
end Go.Proofs.Ytilkfgpcibdikaa
