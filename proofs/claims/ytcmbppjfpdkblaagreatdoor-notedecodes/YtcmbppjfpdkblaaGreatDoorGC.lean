/- Parts of these proofs, laid together. -/
import Derived.Test.YtcmbppjfpdkblaaGreatDoorProg
import Derived.Test.YtcmbppjfpdkblaaGreatDoorGA
import Derived.WalkKit
import Derived.WalkSpells
import Derived.WalkLawsBesides
import Derived.Laws.IdiomStrings
import Derived.Lib.UnsafeStr
import Derived.KernelRfl
import Derived.Deep.RegionWith
import Derived.Deep.DrawnRows
import Derived.Test.YtcmbppjfpdkblaaGreatDoorGB
import Derived.Laws.OwnMore
import Derived.Maps.AppendAt
/- Small laws for walks: 'Gr w w': nothing that lay in w has turned in w', which may hold more; wraps; bytes made strings. -/
namespace Go.Proofs.YtcmbppjfpdkblaaGreatDoor
open Go.RowKit

structure Gr (w w' : World) : Prop where
  below : Below w.heap.size w w'
theorem Gr.refl (w : World) : Gr w w := ⟨Below.refl _ _⟩
theorem Gr.trans {a b c : World} (h : Gr a b) (k : Gr b c) : Gr a c := ⟨h.below.trans (k.below.mono h.below.size)⟩
theorem Gr.alloc {a b : World} (h : Gr a b) {o : Obj} : Gr a (b.alloc o) := ⟨h.below.alloc h.below.size _⟩
theorem Gr.drew {a b : World} (h : Gr a b) : Gr a b.drew := ⟨h.below.drew⟩
theorem Gr.size {a b : World} (h : Gr a b) : a.heap.size ≤ b.heap.size := h.below.size
theorem Gr.cells {W w1 : World} (h : Gr W w1) : (∀ b o, b < W.heap.size → w1.cell? ⟨b, o, none⟩ = W.cell? ⟨b, o, none⟩) ∧ (∀ b o, b < W.heap.size → w1.frozen? ⟨b, o, none⟩ = W.frozen? ⟨b, o, none⟩) :=
  ⟨fun b o hb => h.below.cell (p := ⟨b, o, none⟩) hb, fun b o hb => h.below.frozen (p := ⟨b, o, none⟩) hb⟩
theorem Gr.of {w w' : World} (h : Below w.heap.size w w') : Gr w w' := ⟨h⟩

theorem w64 (n : Int) (h0 : 0 ≤ n) (h1 : n < 18446744073709551616) : IntKind.u64.wrap n = n := by rw [IntKind.wrap_u64]; omega
theorem w8 (n : Int) (h0 : 0 ≤ n) (h1 : n < 256) : IntKind.u8.wrap n = n := by rw [IntKind.wrap_u8]; omega

theorem info5 : (Tryz.prog.info? 5).map (fun i => (i.zero, i.size, i.bytes)) = some (some (.int .u8 0), 1, 1) := by kernel_rfl

/- a row of bytes that the call owns, made a string -/
theorem own_string {base : Nat} {v : Value} {n : Nat} {l : List UInt8} {w : World} (h : w.ownsRow base 5 1 v n (Lib.byteCells l)) (hl : l ≠ []) :
    (convert 90 9 v).run Tryz.prog w = .ok (.string ⟨l.toArray⟩) w := by
  have hcell := fun g (hg : v.ownBlock = some g) => h.cells hg
  obtain ⟨hlen, hv | ⟨g, cap, cur, rfl, _⟩⟩ := h
  · obtain ⟨_, rfl⟩ := hv
    simp [Lib.byteCells] at hlen
    exact absurd hlen hl
  · have e : n = l.length := by simpa [Lib.byteCells] using hlen.symm
    subst e
    refine run_convert_bytes_back w 90 9 5 ⟨g, 0, none⟩ cap l Tryz.underlying90 Tryz.underlying5 Tryz.underlying9 ?_
    intro j hj
    exact hcell g rfl j _ (by simp [Lib.byteCells, hj])

theorem byteCells_snoc (l : List UInt8) (b : UInt8) : Lib.byteCells (l ++ [b]) = Lib.byteCells l ++ [.int .u8 (b.toNat : Int)] := by simp [Lib.byteCells]

/- one byte in a block, made a string -/
theorem conv1 (w : World) (b : Nat) (x : Nat) (hx : x < 256) (h : w.cell? ⟨b, 0, none⟩ = some (.int .u8 (x : Int))) :
    (convert 90 9 (.slice (some ⟨b, 0, none⟩) 1 1)).run Tryz.prog w = .ok (.string ⟨#[UInt8.ofNat x]⟩) w := by
  have := run_convert_bytes_back (P := Tryz.prog) w 90 9 5 ⟨b, 0, none⟩ 1 [UInt8.ofNat x] Tryz.underlying90 Tryz.underlying5 Tryz.underlying9 (by
    intro j hj
    simp at hj; subst hj
    simpa [Addr.add, Nat.mod_eq_of_lt hx] using h)
  simpa using this

/- two strings joined -/
theorem add_lists (x y : List UInt8) (h : x.length + y.length ≤ 9223372036854775807) (w : World) : (Op.stringOp .add ⟨x.toArray⟩ ⟨y.toArray⟩).run Tryz.prog w = .ok (.string ⟨(x ++ y).toArray⟩) w := by
  rw [run_string_add_sum w _ _ (by simpa [ByteArray.size] using h), ByteArray.mk_append_mk]
end Go.Proofs.YtcmbppjfpdkblaaGreatDoor
/- Nothing has turned but one block. -/
namespace Go.Proofs.YtcmbppjfpdkblaaGreatDoor
open Go.RowKit

/- nothing has turned but one block -/
structure GB (b : Nat) (w w' : World) : Prop where
  g : w.grownBy w' (some b)
theorem GB.ofGr {b : Nat} {w w' : World} (g : Gr w w') : GB b w w' := ⟨⟨g.below.os, g.below.tape, g.below.output, g.size, fun k hk _ => g.below.block k hk⟩⟩
theorem GB.refl (b : Nat) (w : World) : GB b w w := GB.ofGr (Gr.refl _)
theorem GB.size {b : Nat} {w w' : World} (h : GB b w w') : w.heap.size ≤ w'.heap.size := h.g.size
theorem GB.trans {b : Nat} {u v w : World} (h : GB b u v) (k : GB b v w) : GB b u w := by
  have hs := h.size
  refine ⟨⟨?_, ?_, ?_, Nat.le_trans h.size k.size, ?_⟩⟩
  · exact k.g.os.trans h.g.os
  · exact k.g.tape.trans h.g.tape
  · exact k.g.output.trans h.g.output
  · intro i hi hne
    exact (k.g.block i (by omega) hne).trans (h.g.block i hi hne)
theorem GB.alloc {b : Nat} {a w : World} (h : GB b a w) {o : Obj} : GB b a (w.alloc o) := h.trans (GB.ofGr (Gr.refl _).alloc)
theorem GB.drew {b : Nat} {a w : World} (h : GB b a w) : GB b a w.drew := h.trans (GB.ofGr (Gr.refl _).drew)
theorem GB.gr {b : Nat} {a w w' : World} (h : GB b a w) (g : Gr w w') : GB b a w' := h.trans (GB.ofGr g)
theorem GB.setNew {b : Nat} {a w : World} (h : GB b a w) (p : Addr) (v : Value) (hp : a.heap.size ≤ p.block ∨ p.block = b) : GB b a (w.setCell p v) :=
  ⟨⟨h.g.os, h.g.tape, h.g.output, by simpa [World.setCell] using h.size, fun k hk hne => (Below.heap_setCell _ _ _ _ (fun e => by
    rcases hp with hp | hp
    · omega
    · exact hne (by rw [e, hp]))).trans (h.g.block k hk hne)⟩⟩
theorem GB.keep {b : Nat} {w w' : World} (h : GB b w w') {g o : Nat} {v : Value} (hg : g < w.heap.size) (hne : g ≠ b) (hc : w.cell? ⟨g, o, none⟩ = some v) : w'.cell? ⟨g, o, none⟩ = some v := by
  rw [← hc]; exact World.cell?_of_block (w := w) (h.g.block g hg (by simp; omega))
theorem GB.keepF {b : Nat} {w w' : World} (h : GB b w w') {g o : Nat} {v : Bool} (hg : g < w.heap.size) (hne : g ≠ b) (hc : w.frozen? ⟨g, o, none⟩ = v) : w'.frozen? ⟨g, o, none⟩ = v := by
  rw [← hc]; exact World.frozen?_of_block (w := w) (h.g.block g hg (by simp; omega))
theorem Gr.gb {b : Nat} {a w w' : World} (g : Gr a w) (h : GB b w w') (hb : a.heap.size ≤ b) : Gr a w' := ⟨g.below.grown h.g g.size (fun k e => by cases e; exact hb)⟩
end Go.Proofs.YtcmbppjfpdkblaaGreatDoor
/- Rows of hops and of integers in memory. -/
namespace Go.Proofs.YtcmbppjfpdkblaaGreatDoor
open Go.RowKit

theorem Gr.grownBy {w w' : World} (h : Gr w w') : w.grownBy w' none := ⟨h.below.os, h.below.tape, h.below.output, h.below.size, fun k hk _ => h.below.block k hk⟩
theorem Gr.keep {W w1 : World} (g : Gr W w1) {p : Addr} {v : Value} (h : W.cell? p = some v) : w1.cell? p = some v :=
  (g.below.cell (World.block_lt_of_cell? W p h)).trans h

/- a row of hops in memory, its address whatever where there is none -/
def HopsAt (w : World) (ad : Option Addr) (L : List (Int × Int)) : Prop :=
  ∀ j (h : j < L.length), ∃ b off, ad = some ⟨b, off, none⟩ ∧ b < w.heap.size ∧ w.cell? ⟨b, off + j * 2, none⟩ = some (.int .i64 L[j].1) ∧ w.cell? ⟨b, off + j * 2 + 1, none⟩ = some (.int .i64 L[j].2)
theorem HopsAt.gr {w w' : World} {ad : Option Addr} {L : List (Int × Int)} (h : HopsAt w ad L) (g : Gr w w') : HopsAt w' ad L := by
  intro j hj
  obtain ⟨b, off, e, hb, hc, hd⟩ := h j hj
  exact ⟨b, off, e, Nat.lt_of_lt_of_le hb g.size, g.keep hc, g.keep hd⟩
theorem HopsAt.nil {w : World} {ad : Option Addr} : HopsAt w ad [] := fun j h => absurd h (by simp)
theorem HopsAt.take {w : World} {ad : Option Addr} {L : List (Int × Int)} (h : HopsAt w ad L) (k : Nat) : HopsAt w ad (L.take k) := by
  intro j hj
  have hj' : j < L.length := by rw [List.length_take] at hj; omega
  obtain ⟨b, off, e, hb, hc, hd⟩ := h j hj'
  exact ⟨b, off, e, hb, by rw [List.getElem_take]; exact hc, by rw [List.getElem_take]; exact hd⟩

/- a row of integers in memory -/
def IntsAt (w : World) (ad : Option Addr) (l : List Int) : Prop :=
  ∀ j (h : j < l.length), ∃ b off, ad = some ⟨b, off, none⟩ ∧ b < w.heap.size ∧ w.cell? ⟨b, off + j, none⟩ = some (.int .i64 l[j])
theorem IntsAt.gr {w w' : World} {ad : Option Addr} {l : List Int} (h : IntsAt w ad l) (g : Gr w w') : IntsAt w' ad l := by
  intro j hj
  obtain ⟨b, off, e, hb, hc⟩ := h j hj
  exact ⟨b, off, e, Nat.lt_of_lt_of_le hb g.size, g.keep hc⟩
theorem IntsAt.take {w : World} {ad : Option Addr} {l : List Int} (h : IntsAt w ad l) (k : Nat) : IntsAt w ad (l.take k) := by
  intro j hj
  have hj' : j < l.length := by rw [List.length_take] at hj; omega
  obtain ⟨b, off, e, hb, hc⟩ := h j hj'
  exact ⟨b, off, e, hb, by rw [List.getElem_take]; exact hc⟩

def intV (l : List Int) : List Value := l.map fun n => Value.int .i64 n
theorem own_or (v : Value) : v.ownBlock = none ∨ v.ownBlock ≠ none := by
  cases v.ownBlock with
  | none => exact Or.inl rfl
  | some q => exact Or.inr (by simp)
theorem own_ints {base : Nat} {v : Value} {l : List Int} {w : World} (h : w.ownsRow base 3 1 v l.length (intV l)) : ∃ ad cap, v = .slice ad l.length cap ∧ l.length ≤ cap ∧ IntsAt w ad l := by
  have hcell := fun g (hg : v.ownBlock = some g) => h.cells hg
  have hlt := h.lt
  obtain ⟨_, ⟨rfl, h0⟩ | ⟨g, cap, cur, rfl, hx⟩⟩ := h
  · have : l = [] := List.length_eq_zero_iff.1 h0
    subst this
    exact ⟨none, 0, rfl, by simp, fun j hj => absurd hj (by simp)⟩
  · refine ⟨some ⟨g, 0, none⟩, cap, rfl, hx.2.2.1, ?_⟩
    intro j hj
    refine ⟨g, 0, rfl, (hlt g rfl).2, ?_⟩
    have := hcell g rfl j (.int .i64 l[j]) (by simp [intV, hj])
    rw [Addr.add_lit] at this
    simpa using this
theorem cell_one_at (w : World) (x : Value) (t : TypeId) (n : Nat) (hn : n = w.heap.size) : ∀ j u, [x][j]? = some u → (w.alloc (.cells #[x] t)).cell? ((⟨n, 0, none⟩ : Addr).add j) = some u := by
  subst hn; exact cell_one_new w x t
theorem own_lit1 (w : World) (base : Nat) (x : Value) (t : TypeId) (g : Nat) (hg : g = w.heap.size) (hb : base ≤ w.heap.size) : (w.alloc (.cells #[x] t)).ownsRow base t 1 (.slice (some ⟨g, 0, none⟩) 1 1) 1 [x] := by
  subst hg; exact World.ownsRow_lit w #[x] 1 hb (by unfold maxLen; omega) rfl
theorem infoInt : (Tryz.prog.info? 3).map (fun i => (i.zero, i.size, i.bytes)) = some (some (.int .i64 0), 1, 8) := by kernel_rfl
theorem infoHop : (Tryz.prog.info? 56).map (fun i => (i.zero, i.size, i.bytes)) = some (some (.agg #[.int .i64 0, .int .i64 0]), 2, 16) := by kernel_rfl
end Go.Proofs.YtcmbppjfpdkblaaGreatDoor
/- Rows of strings in memory, and small laws on them. -/
namespace Go.Proofs.YtcmbppjfpdkblaaGreatDoor
open Go.RowKit


/- a row of strings in memory, its address whatever where there is none -/
def StrsAt (w : World) (ad : Option Addr) (L : List ByteArray) : Prop :=
  ∀ j (h : j < L.length), ∃ b off, ad = some ⟨b, off, none⟩ ∧ b < w.heap.size ∧ w.cell? ⟨b, off + j, none⟩ = some (.string L[j])
theorem StrsAt.gr {w w' : World} {ad : Option Addr} {L : List ByteArray} (h : StrsAt w ad L) (g : Gr w w') : StrsAt w' ad L := by
  intro j hj
  obtain ⟨b, off, e, hb, hc⟩ := h j hj
  exact ⟨b, off, e, Nat.lt_of_lt_of_le hb g.size, (g.below.cell (p := ⟨b, off + j, none⟩) hb).trans hc⟩

theorem mk_data (s : ByteArray) : (⟨s.data.toList.toArray⟩ : ByteArray) = s := by simp


theorem info9 : (Tryz.prog.info? 9).map (fun i => (i.zero, i.size, i.bytes)) = some (some (.string ⟨#[]⟩), 1, 16) := by kernel_rfl

def mkT (t : List UInt8) : ByteArray := ⟨t.toArray⟩
def strV (l : List (List UInt8)) : List Value := l.map fun t => Value.string (mkT t)
theorem strV_snoc (l : List (List UInt8)) (t : List UInt8) : strV (l ++ [t]) = strV l ++ [.string (mkT t)] := by simp [strV]

/- a row of strings that the call owns -/
theorem own_strs {base : Nat} {v : Value} {l : List (List UInt8)} {w : World} (h : w.ownsRow base 9 1 v l.length (strV l)) : ∃ ad cap, v = .slice ad l.length cap ∧ StrsAt w ad (l.map mkT) := by
  have hcell := fun g (hg : v.ownBlock = some g) => h.cells hg
  have hlt := h.lt
  obtain ⟨_, ⟨rfl, h0⟩ | ⟨g, cap, cur, rfl, _⟩⟩ := h
  · have : l = [] := List.length_eq_zero_iff.1 h0
    subst this
    exact ⟨none, 0, rfl, fun j hj => absurd hj (by simp)⟩
  · refine ⟨some ⟨g, 0, none⟩, cap, rfl, ?_⟩
    intro j hj
    have hj' : j < l.length := by simpa using hj
    refine ⟨g, 0, rfl, (hlt g rfl).2, ?_⟩
    have := hcell g rfl j (.string (mkT l[j])) (by simp [strV, hj'])
    rw [Addr.add_lit] at this
    simpa using this

theorem grownBy_block {w w' : World} {b : Nat} (h : w.grownBy w' (some b)) {k : Nat} (hk : k < w.heap.size) (hne : k ≠ b) : w'.heap[k]? = w.heap[k]? := h.block k hk (by simpa using hne)

end Go.Proofs.YtcmbppjfpdkblaaGreatDoor
