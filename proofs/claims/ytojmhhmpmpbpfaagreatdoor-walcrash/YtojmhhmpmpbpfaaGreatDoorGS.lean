/- Parts of these proofs, laid together. -/
import Derived.Test.YtojmhhmpmpbpfaaGreatDoorGF
import Derived.Test.YtojmhhmpmpbpfaaGreatDoorGA
import Derived.Test.YtojmhhmpmpbpfaaGreatDoorGB
import Derived.Test.YtojmhhmpmpbpfaaGreatDoorGR
import Derived.Test.YtojmhhmpmpbpfaaGreatDoorGH
import Derived.Test.YtojmhhmpmpbpfaaGreatDoorGN
import Derived.Test.YtojmhhmpmpbpfaaGreatDoorGO
import Derived.Test.YtojmhhmpmpbpfaaGreatDoorGP
import Derived.Test.YtojmhhmpmpbpfaaGreatDoorShelf
import Derived.Deep.QuietTactic
import Derived.BigQuiet
namespace Go.Proofs.YtojmhhmpmpbpfaaGreatDoor
open Go.RowKit
open Dk (Fl zf)


/- numbers that a call owns -/
theorem own_nums {base : Nat} {v : Value} {l : List Int} {w : World} (h : w.ownsRow base 3 1 v l.length (intV l)) : ∃ ad cap, v = .slice ad l.length cap ∧ (∀ p, ad = some p → base ≤ p.block) ∧ IntsAt w ad l := by
  have hcell := fun g (hg : v.ownBlock = some g) => h.cells hg
  have hlt := h.lt
  obtain ⟨_, ⟨rfl, h0⟩ | ⟨g, cap, cur, rfl, hx⟩⟩ := h
  · have : l = [] := List.length_eq_zero_iff.1 h0
    subst this
    exact ⟨none, 0, rfl, by simp, fun j hj => absurd hj (by simp)⟩
  · refine ⟨some ⟨g, 0, none⟩, cap, rfl, fun p hp => (by cases hp; exact (hlt g rfl).1), ?_⟩
    intro j hj
    refine ⟨g, 0, rfl, (hlt g rfl).2, ?_⟩
    have := hcell g rfl j (.int .i64 l[j]) (by simp [intV, hj])
    rw [Addr.add_lit] at this
    simpa using this
theorem infoN : (Tryz.prog.info? 3).map (fun i => (i.zero, i.size, i.bytes)) = some (some (.int .i64 0), 1, 8) := by kernel_rfl
theorem own_one (w : World) (base : Nat) (x : Value) (t : TypeId) (g : Nat) (hg : g = w.heap.size) (hb : base ≤ w.heap.size) : (w.alloc (.cells #[x] t)).ownsRow base t 1 (.slice (some ⟨g, 0, none⟩) 1 1) 1 [x] := by
  subst hg; exact World.ownsRow_lit w #[x] 1 hb (by unfold maxLen; omega) rfl

/- files as they come in: few, and not too long -/
structure FsAt (w : World) (ad : Option Addr) (cap : Nat) (L : List Fl) : Prop where
  row : RowAt flf w ad L
  len : L.length ≤ 3000
  cap : L.length ≤ cap
  rng : ∀ f ∈ L, -9223372036854775808 ≤ f.n ∧ f.n ≤ 9223372036854775807 ∧ f.d.size ≤ 300000
theorem FsAt.gr {w w' : World} {ad : Option Addr} {cap : Nat} {L : List Fl} (h : FsAt w ad cap L) (g : Gr w w') : FsAt w' ad cap L := ⟨h.row.gr g, h.len, h.cap, h.rng⟩

/- a struct of four cells in memory that may be written -/
structure Bx4 (w : World) (g : Nat) (a b c d : Value) : Prop where
  c0 : w.cell? ⟨g, 0, none⟩ = some a
  c1 : w.cell? ⟨g, 1, none⟩ = some b
  c2 : w.cell? ⟨g, 2, none⟩ = some c
  c3 : w.cell? ⟨g, 3, none⟩ = some d
  f0 : w.frozen? ⟨g, 0, none⟩ = false
  f1 : w.frozen? ⟨g, 1, none⟩ = false
  f2 : w.frozen? ⟨g, 2, none⟩ = false
  f3 : w.frozen? ⟨g, 3, none⟩ = false
  lt : g < w.heap.size
theorem Bx4.gr {w w' : World} {g : Nat} {a b c d : Value} (h : Bx4 w g a b c d) (k : Gr w w') : Bx4 w' g a b c d :=
  ⟨k.keep h.c0, k.keep h.c1, k.keep h.c2, k.keep h.c3, k.keepF h.lt h.f0, k.keepF h.lt h.f1, k.keepF h.lt h.f2, k.keepF h.lt h.f3, Nat.lt_of_lt_of_le h.lt k.size⟩
theorem Bx4.new (w : World) (a b c d : Value) (t : TypeId) (g : Nat) (hg : g = w.heap.size) : Bx4 (w.alloc (.cells #[a, b, c, d] t)) g a b c d := by
  subst hg
  exact ⟨by simp, by simp, by simp, by simp, by simp [go_sem], by simp [go_sem], by simp [go_sem], by simp [go_sem], by simp⟩
theorem Bx4.fill {w : World} {g : Nat} {a b c d : Value} (h : Bx4 w g a b c d) (x y z u : Value) :
    Bx4 ((((w.setCell ⟨g, 0, none⟩ x).setCell ⟨g, 1, none⟩ y).setCell ⟨g, 2, none⟩ z).setCell ⟨g, 3, none⟩ u) g x y z u := by
  obtain ⟨h0, h1, h2, h3, f0, f1, f2, f3, hl⟩ := h
  exact ⟨by simp [go_sem, *], by simp [go_sem, *], by simp [go_sem, *], by simp [go_sem, *], by simp [go_sem, *], by simp [go_sem, *], by simp [go_sem, *], by simp [go_sem, *], by simpa using hl⟩
theorem Bx4.s0 {w : World} {g : Nat} {a b c d : Value} (h : Bx4 w g a b c d) (x : Value) : Bx4 (w.setCell ⟨g, 0, none⟩ x) g x b c d := by
  obtain ⟨h0, h1, h2, h3, f0, f1, f2, f3, hl⟩ := h
  exact ⟨by simp [go_sem, *], by simp [go_sem, *], by simp [go_sem, *], by simp [go_sem, *], by simp [go_sem, *], by simp [go_sem, *], by simp [go_sem, *], by simp [go_sem, *], by simpa using hl⟩
theorem Bx4.s1 {w : World} {g : Nat} {a b c d : Value} (h : Bx4 w g a b c d) (x : Value) : Bx4 (w.setCell ⟨g, 1, none⟩ x) g a x c d := by
  obtain ⟨h0, h1, h2, h3, f0, f1, f2, f3, hl⟩ := h
  exact ⟨by simp [go_sem, *], by simp [go_sem, *], by simp [go_sem, *], by simp [go_sem, *], by simp [go_sem, *], by simp [go_sem, *], by simp [go_sem, *], by simp [go_sem, *], by simpa using hl⟩
theorem Bx4.s2 {w : World} {g : Nat} {a b c d : Value} (h : Bx4 w g a b c d) (x : Value) : Bx4 (w.setCell ⟨g, 2, none⟩ x) g a b x d := by
  obtain ⟨h0, h1, h2, h3, f0, f1, f2, f3, hl⟩ := h
  exact ⟨by simp [go_sem, *], by simp [go_sem, *], by simp [go_sem, *], by simp [go_sem, *], by simp [go_sem, *], by simp [go_sem, *], by simp [go_sem, *], by simp [go_sem, *], by simpa using hl⟩
theorem Bx4.s3 {w : World} {g : Nat} {a b c d : Value} (h : Bx4 w g a b c d) (x : Value) : Bx4 (w.setCell ⟨g, 3, none⟩ x) g a b c x := by
  obtain ⟨h0, h1, h2, h3, f0, f1, f2, f3, hl⟩ := h
  exact ⟨by simp [go_sem, *], by simp [go_sem, *], by simp [go_sem, *], by simp [go_sem, *], by simp [go_sem, *], by simp [go_sem, *], by simp [go_sem, *], by simp [go_sem, *], by simpa using hl⟩
theorem Bx4.far {w : World} {g : Nat} {a b c d : Value} (h : Bx4 w g a b c d) (p : Addr) (u : Value) (hp : p.block ≠ g) : Bx4 (w.setCell p u) g a b c d := by
  obtain ⟨h0, h1, h2, h3, f0, f1, f2, f3, hl⟩ := h
  refine ⟨?_, ?_, ?_, ?_, ?_, ?_, ?_, ?_, by simpa using hl⟩
  · rw [World.cell?_setCell_far _ _ _ _ (by simpa using hp)]; exact h0
  · rw [World.cell?_setCell_far _ _ _ _ (by simpa using hp)]; exact h1
  · rw [World.cell?_setCell_far _ _ _ _ (by simpa using hp)]; exact h2
  · rw [World.cell?_setCell_far _ _ _ _ (by simpa using hp)]; exact h3
  · rw [World.frozen?_setCell]; exact f0
  · rw [World.frozen?_setCell]; exact f1
  · rw [World.frozen?_setCell]; exact f2
  · rw [World.frozen?_setCell]; exact f3
theorem Bx4.grown {w w' : World} {g : Nat} {a b c d : Value} (h : Bx4 w g a b c d) {r : Option Nat} (k : w.grownBy w' r) (hne : some g ≠ r) : Bx4 w' g a b c d := by
  have e := k.block g h.lt hne
  have hc : ∀ o, w'.cell? ⟨g, o, none⟩ = w.cell? ⟨g, o, none⟩ := fun o => World.cell?_of_block (w := w) e
  have hf : ∀ o, w'.frozen? ⟨g, o, none⟩ = w.frozen? ⟨g, o, none⟩ := fun o => World.frozen?_of_block (w := w) e
  exact ⟨(hc _).trans h.c0, (hc _).trans h.c1, (hc _).trans h.c2, (hc _).trans h.c3, (hf _).trans h.f0, (hf _).trans h.f1, (hf _).trans h.f2, (hf _).trans h.f3, Nat.lt_of_lt_of_le h.lt k.size⟩

theorem strs_keep {w w' : World} {ad : Option Addr} {l : List ByteArray} (h : StrsAt w ad l) (hs : w.heap.size ≤ w'.heap.size) (hk : ∀ p s, w.cell? p = some (.string s) → w'.cell? p = some (.string s)) : StrsAt w' ad l := by
  intro j hj
  obtain ⟨b, off, e, hb, hc⟩ := h j hj
  exact ⟨b, off, e, Nat.lt_of_lt_of_le hb hs, hk _ _ hc⟩
/- no string is turned where no string stood -/
theorem str_set {w : World} {p : Addr} {v u : Value} (h : w.cell? p = some v) (hv : ∀ s, v ≠ .string s) (q : Addr) (s : ByteArray) (hq : w.cell? q = some (.string s)) : (w.setCell p u).cell? q = some (.string s) := by
  by_cases e : q = p
  · subst e
    rw [h] at hq
    cases hq
    exact absurd rfl (hv s)
  · rw [World.cell?_setCell_other _ _ _ _ (fun h => e h.symm)]
    exact hq
theorem strs_set {w : World} {ad : Option Addr} {l : List ByteArray} (h : StrsAt w ad l) {p : Addr} {v : Value} (u : Value) (hp : w.cell? p = some v) (hv : ∀ s, v ≠ .string s) : StrsAt (w.setCell p u) ad l :=
  strs_keep h (by simp [World.setCell]) (fun q s hq => str_set hp hv q s hq)
theorem ints_far {w : World} {ad : Option Addr} {l : List Int} (h : IntsAt w ad l) (p : Addr) (v : Value) (hp : ∀ a, ad = some a → p.block ≠ a.block) : IntsAt (w.setCell p v) ad l := by
  intro j hj
  obtain ⟨b, off, e, hb, hc⟩ := h j hj
  exact ⟨b, off, e, by simpa using hb, by rw [World.cell?_setCell_far _ _ _ _ (by simpa using hp _ e)]; exact hc⟩
/- what was found is laid into a struct -/
theorem fill_all {w : World} {g : Nat} {a b : Int} {c0 d0 : Option Addr} {c1 c2 d1 d2 : Nat} (h : Bx4 w g (.int .i64 a) (.int .i64 b) (.slice c0 c1 c2) (.slice d0 d1 d2)) {ab ad : Option Addr} {B : List ByteArray} {D : List Int} (hb : StrsAt w ab B) (hd : IntsAt w ad D) (hf : ∀ p, ad = some p → g ≠ p.block) (x y : Int) (z0 : Option Addr) (z1 z2 : Nat) (u : Value) :
    StrsAt ((((w.setCell ⟨g, 0, none⟩ (.int .i64 x)).setCell ⟨g, 1, none⟩ (.int .i64 y)).setCell ⟨g, 2, none⟩ (.slice z0 z1 z2)).setCell ⟨g, 3, none⟩ u) ab B ∧
    IntsAt ((((w.setCell ⟨g, 0, none⟩ (.int .i64 x)).setCell ⟨g, 1, none⟩ (.int .i64 y)).setCell ⟨g, 2, none⟩ (.slice z0 z1 z2)).setCell ⟨g, 3, none⟩ u) ad D := by
  have h1 := h.s0 (.int .i64 x)
  have h2 := h1.s1 (.int .i64 y)
  have h3 := h2.s2 (.slice z0 z1 z2)
  refine ⟨strs_set (strs_set (strs_set (strs_set hb _ h.c0 (by simp)) _ h1.c1 (by simp)) _ h2.c2 (by simp)) _ h3.c3 (by simp), ?_⟩
  exact ints_far (ints_far (ints_far (ints_far hd _ _ hf) _ _ hf) _ _ hf) _ _ hf
theorem gr_fill {w W : World} {g : Nat} (h : Gr w W) (hg : w.heap.size ≤ g) (x y z u : Value) : Gr w ((((W.setCell ⟨g, 0, none⟩ x).setCell ⟨g, 1, none⟩ y).setCell ⟨g, 2, none⟩ z).setCell ⟨g, 3, none⟩ u) :=
  (((h.set _ hg x).set _ hg y).set _ hg z).set _ hg u
/- what is found, as an answer -/
structure LkI (x : Sg.An) (w w' : World) (ab : Option Addr) (cb : Nat) (ad : Option Addr) (cd : Nat) : Prop where
  bo : StrsAt w' ab (x.bodies.map mkT)
  dr : IntsAt w' ad x.drop
  gr : Gr w w'
  fb : ∀ p, ab = some p → w.heap.size ≤ p.block
  fd : ∀ p, ad = some p → w.heap.size ≤ p.block
def LkR (x : Sg.An) (w : World) (e : Ending) (w' : World) : Prop :=
  ∃ ab cb ad cd, e = .returned (.tuple #[.agg #[.int .i64 x.num, .int .i64 (x.good : Int), .slice ab x.bodies.length cb, .slice ad x.drop.length cd], .int .i64 x.err]) ∧ LkI x w w' ab cb ad cd
end Go.Proofs.YtojmhhmpmpbpfaaGreatDoor
namespace Go.Proofs.YtojmhhmpmpbpfaaGreatDoor
open Go.RowKit Go.Maps
open Dk (Fl Fo St Ok)
variable {a w w' w2 : World} {b m f g : Nat} {A : Nat → Int} {s : St}

/- what a call on a log, or on the file of one, may turn: its disk, and its own block -/
structure T3 (w w' : World) (b m f : Nat) : Prop where
  os : w'.os = w.os
  tape : w'.tape = w.tape
  output : w'.output = w.output
  size : w.heap.size ≤ w'.heap.size
  block : ∀ j, j < w.heap.size → j ≠ b → j ≠ m → j ≠ f → w'.heap[j]? = w.heap[j]?
theorem Td.t3 (h : Td w w' b m) (f : Nat) : T3 w w' b m f := ⟨h.os, h.tape, h.output, h.size, fun j hj h1 h2 _ => h.block j hj h1 h2⟩
theorem T3.gr (h : Gr w w') (b m f : Nat) : T3 w w' b m f := (Td.gr h).t3 f
theorem T3.refl (w : World) (b m f : Nat) : T3 w w b m f := T3.gr (Gr.refl w) b m f
theorem T3.trans (h : T3 a w b m f) (k : T3 w w' b m f) : T3 a w' b m f := by
  have hs := h.size
  exact ⟨k.os.trans h.os, k.tape.trans h.tape, k.output.trans h.output, Nat.le_trans h.size k.size, fun j hj h1 h2 h3 => by rw [k.block j (by omega) h1 h2 h3, h.block j hj h1 h2 h3]⟩
theorem T3.set (w : World) (b m f o : Nat) (u : Value) : T3 w (w.setCell ⟨f, o, none⟩ u) b m f :=
  ⟨rfl, rfl, rfl, by simp [World.setCell], fun j _ _ _ hn => Below.heap_setCell w _ u j hn⟩
theorem T3.cell {j o : Nat} {u : Value} (h : T3 w w' b m f) (hb : j ≠ b) (hm : j ≠ m) (hf : j ≠ f) (hc : w.cell? ⟨j, o, none⟩ = some u) : w'.cell? ⟨j, o, none⟩ = some u := by
  rw [World.cell?_of_block (w := w) (h.block j (World.block_lt_of_cell? w _ hc) hb hm hf)]; exact hc
theorem T3.gr_of (g : Gr a w) (t : T3 w w' b m f) (hb : a.heap.size ≤ b) (hm : a.heap.size ≤ m) (hf : a.heap.size ≤ f) : Gr a w' :=
  ⟨⟨t.os.trans g.below.os, t.tape.trans g.below.tape, t.output.trans g.below.output, Nat.le_trans g.below.size t.size, fun j hj => by
    rw [t.block j (Nat.lt_of_lt_of_le hj g.size) (by omega) (by omega) (by omega)]
    exact g.below.block j hj⟩⟩
/- a block that is new since a world -/
theorem T3.skip (g : Gr a w) (t : T3 w w' b m f) (hf : a.heap.size ≤ f) : Td a w' b m :=
  ⟨t.os.trans g.below.os, t.tape.trans g.below.tape, t.output.trans g.below.output, Nat.le_trans g.below.size t.size, fun j hj h1 h2 => by
    rw [t.block j (Nat.lt_of_lt_of_le hj g.size) h1 h2 (by omega)]
    exact g.below.block j hj⟩
theorem Td.ints {ad : Option Addr} {l : List Int} (h : IntsAt w ad l) (t : Td w w' b m) (hd : ∀ p, ad = some p → p.block ≠ b ∧ p.block ≠ m) : IntsAt w' ad l :=
  ints_keep h t.size (fun p e hl => t.block _ hl (hd p e).1 (hd p e).2)
theorem Td.strs {ad : Option Addr} {l : List ByteArray} (h : StrsAt w ad l) (t : Td w w' b m) (hd : ∀ p, ad = some p → p.block ≠ b ∧ p.block ≠ m) : StrsAt w' ad l := by
  intro j hj
  obtain ⟨x, off, rfl, hb, hc⟩ := h j hj
  exact ⟨x, off, rfl, Nat.lt_of_lt_of_le hb t.size, t.cell (hd _ rfl).1 (hd _ rfl).2 hc⟩
theorem T3.strs {ad : Option Addr} {l : List ByteArray} (h : StrsAt w ad l) (t : T3 w w' b m f) (hd : ∀ p, ad = some p → p.block ≠ b ∧ p.block ≠ m ∧ p.block ≠ f) : StrsAt w' ad l := by
  intro j hj
  obtain ⟨x, off, rfl, hb, hc⟩ := h j hj
  exact ⟨x, off, rfl, Nat.lt_of_lt_of_le hb t.size, t.cell (hd _ rfl).1 (hd _ rfl).2.1 (hd _ rfl).2.2 hc⟩

/- a struct of three cells in a block of its own -/
structure Bx3 (w : World) (g : Nat) (a b c : Value) : Prop where
  c0 : w.cell? ⟨g, 0, none⟩ = some a
  c1 : w.cell? ⟨g, 1, none⟩ = some b
  c2 : w.cell? ⟨g, 2, none⟩ = some c
  f0 : w.frozen? ⟨g, 0, none⟩ = false
  f1 : w.frozen? ⟨g, 1, none⟩ = false
  f2 : w.frozen? ⟨g, 2, none⟩ = false
  lt : g < w.heap.size
theorem Bx3.gr {x y u : Value} (h : Bx3 w g x y u) (k : Gr w w') : Bx3 w' g x y u :=
  ⟨k.keep h.c0, k.keep h.c1, k.keep h.c2, k.keepF h.lt h.f0, k.keepF h.lt h.f1, k.keepF h.lt h.f2, Nat.lt_of_lt_of_le h.lt k.size⟩
theorem Bx3.new (w : World) (x y u : Value) (t : TypeId) (g : Nat) (hg : g = w.heap.size) : Bx3 (w.alloc (.cells #[x, y, u] t)) g x y u := by
  subst hg
  exact ⟨by simp, by simp, by simp, by simp [go_sem], by simp [go_sem], by simp [go_sem], by simp⟩
theorem Bx3.s0 {x y u : Value} (h : Bx3 w g x y u) (v : Value) : Bx3 (w.setCell ⟨g, 0, none⟩ v) g v y u := by
  obtain ⟨h0, h1, h2, f0, f1, f2, hl⟩ := h
  exact ⟨by simp [go_sem, *], by simp [go_sem, *], by simp [go_sem, *], by simp [go_sem, *], by simp [go_sem, *], by simp [go_sem, *], by simpa using hl⟩
theorem Bx3.s1 {x y u : Value} (h : Bx3 w g x y u) (v : Value) : Bx3 (w.setCell ⟨g, 1, none⟩ v) g x v u := by
  obtain ⟨h0, h1, h2, f0, f1, f2, hl⟩ := h
  exact ⟨by simp [go_sem, *], by simp [go_sem, *], by simp [go_sem, *], by simp [go_sem, *], by simp [go_sem, *], by simp [go_sem, *], by simpa using hl⟩
theorem Bx3.s2 {x y u : Value} (h : Bx3 w g x y u) (v : Value) : Bx3 (w.setCell ⟨g, 2, none⟩ v) g x y v := by
  obtain ⟨h0, h1, h2, f0, f1, f2, hl⟩ := h
  exact ⟨by simp [go_sem, *], by simp [go_sem, *], by simp [go_sem, *], by simp [go_sem, *], by simp [go_sem, *], by simp [go_sem, *], by simpa using hl⟩
theorem Bx3.keep {x y u : Value} (h : Bx3 w g x y u) (e : w'.heap[g]? = w.heap[g]?) : Bx3 w' g x y u := by
  have hc : ∀ o, w'.cell? ⟨g, o, none⟩ = w.cell? ⟨g, o, none⟩ := fun o => World.cell?_of_block (w := w) e
  have hf : ∀ o, w'.frozen? ⟨g, o, none⟩ = w.frozen? ⟨g, o, none⟩ := fun o => World.frozen?_of_block (w := w) e
  refine ⟨(hc _).trans h.c0, (hc _).trans h.c1, (hc _).trans h.c2, (hf _).trans h.f0, (hf _).trans h.f1, (hf _).trans h.f2, ?_⟩
  exact World.block_lt_of_cell? w' ⟨g, 0, none⟩ ((hc _).trans h.c0)
/- the file of a log -/
structure Fa (w : World) (g b : Nat) (n : Int) : Prop where
  c0 : w.cell? ⟨g, 0, none⟩ = some (ptr b)
  c1 : w.cell? ⟨g, 1, none⟩ = some (.int .i64 n)
variable {n : Int}
theorem Fa.lt (h : Fa w g b n) : g < w.heap.size := World.block_lt_of_cell? w _ h.c0
theorem Fa.ne (h : Fa w g b n) (hd : DAt w b m A s) : g ≠ b ∧ g ≠ m := by
  constructor
  · rintro rfl
    have h1 := h.c0
    rw [hd.mp] at h1
    cases h1
  · rintro rfl
    obtain ⟨D, ⟨es, cl, h1, _⟩, _⟩ := hd.fl
    have := h.c0
    simp [World.cell?, h1] at this
theorem Fa.keep (h : Fa w g b n) (e : w'.heap[g]? = w.heap[g]?) : Fa w' g b n := by
  have hc : ∀ o, w'.cell? ⟨g, o, none⟩ = w.cell? ⟨g, o, none⟩ := fun o => World.cell?_of_block (w := w) e
  exact ⟨(hc _).trans h.c0, (hc _).trans h.c1⟩
theorem Fa.gr (h : Fa w g b n) (k : Gr w w') : Fa w' g b n := h.keep (k.below.block g h.lt)
theorem Fa.td (h : Fa w g b n) (hd : DAt w b m A s) (k : Td w w' b m) : Fa w' g b n := h.keep (k.block g h.lt (h.ne hd).1 (h.ne hd).2)
theorem Fa.far (h : Fa w g b n) (hd : DAt w b m A s) (k : FaR w w' b m s) : Fa w' g b n := h.td hd k.2
/- a log is the box of its file, and whether it is broken; how many bytes the file has, the disk alone says -/
abbrev LgAt (w : World) (g b : Nat) (l : Wl.Lg) : Prop := Bx3 w g (ptr b) (.int .i64 l.n) (.bool l.br)
theorem LgAt.fa {l : Wl.Lg} (h : LgAt w g b l) : Fa w g b l.n := ⟨h.c0, h.c1⟩
theorem LgAt.ne {l : Wl.Lg} (h : LgAt w g b l) (hd : DAt w b m A s) : g ≠ b ∧ g ≠ m := h.fa.ne hd
theorem LgAt.td {l : Wl.Lg} (h : LgAt w g b l) (hd : DAt w b m A s) (k : Td w w' b m) : LgAt w' g b l := h.keep (k.block g h.lt (h.ne hd).1 (h.ne hd).2)
/- a struct of four cells, where nothing touches its block -/
theorem Bx4.keep {x y u v : Value} (h : Bx4 w g x y u v) (e : w'.heap[g]? = w.heap[g]?) : Bx4 w' g x y u v := by
  have hc : ∀ o, w'.cell? ⟨g, o, none⟩ = w.cell? ⟨g, o, none⟩ := fun o => World.cell?_of_block (w := w) e
  have hf : ∀ o, w'.frozen? ⟨g, o, none⟩ = w.frozen? ⟨g, o, none⟩ := fun o => World.frozen?_of_block (w := w) e
  refine ⟨(hc _).trans h.c0, (hc _).trans h.c1, (hc _).trans h.c2, (hc _).trans h.c3, (hf _).trans h.f0, (hf _).trans h.f1, (hf _).trans h.f2, (hf _).trans h.f3, ?_⟩
  exact World.block_lt_of_cell? w' ⟨g, 0, none⟩ ((hc _).trans h.c0)

/- bytes are laid behind a file -/
def layE (s : St) (n : Int) (d : ByteArray) : Int := if Dk.appE s n d = 0 then Dk.stpE (Dk.appS s n d) 1 n 0 else Dk.appE s n d
def layS (s : St) (n : Int) (d : ByteArray) : St := if Dk.appE s n d = 0 then Dk.stpS (Dk.appS s n d) 1 n 0 else Dk.appS s n d
theorem beg_ok {b : ByteArray} (h : b.size ≤ 30000) (s : St) (n : Int) : (Wl.beg s n b).2.1 = layE s n (Wl.fr b) ∧ (Wl.beg s n b).2.2 = layS s n (Wl.fr b) := by
  unfold Wl.beg layE layS
  rw [if_pos h]
  split <;> exact ⟨rfl, rfl⟩
end Go.Proofs.YtojmhhmpmpbpfaaGreatDoor
namespace Go.Proofs.YtojmhhmpmpbpfaaGreatDoor
open Go.RowKit Go.Maps
open Dk (Fl Fo St Ok)
variable {a w w' w2 : World} {b m f g : Nat} {A : Nat → Int} {s : St} {n z : Int}

theorem get_none {L : List Fl} (h : ∀ j (hj : j < L.length), L[j].n ≠ n) : ((Dk.get L n).d.size : Int) = 0 := by
  have h1 : Dk.has L n = false := Dk.has_false (fun f hf => by
    obtain ⟨j, hj, rfl⟩ := List.getElem_of_mem hf
    exact h j hj)
  rw [Dk.get_not h1]; rfl
set_option maxHeartbeats 4000000 in
set_option maxRecDepth 100000 in
theorem fsize_any (h : DAt w b m A s) (hf : Fa w g b n) : Calls Tryz.prog 51 #[ptr g] w fun e w' => e = .returned (.int .i64 ((Dk.get s.L n).d.size : Int)) ∧ Gr w w' := by
  have HI := Lib.hid (image_cap h)
  have HO := Lib.hid h.ok
  have hl8 := h.ok.len
  have c0 := hf.c0
  have HF := Lib.hid hf.c1
  have hgl := hf.lt
  clear h hf
  go_enter Tryz.func51, Tryz.ntmps51
  go_wp2_with fail
  refine HI.out.mono ?_
  rintro e w1 ⟨ia, ic, rfl, hrow, _, hg1, _⟩
  have HG1 := Lib.hid hg1
  have HRow := Lib.hid hrow
  clear hrow hg1 c0 HI
  go_wp2
  go_loopw [11] (fun i wr => ∃ k : Nat, k ≤ s.L.length ∧ i = .int .i64 (k : Int) ∧ (∀ j (hj : j < s.L.length), j < k → s.L[j].n ≠ n) ∧ Gr w1 wr) (fun i _ => s.L.length - (intOf i).toNat)
  case atStart => exact ⟨0, Nat.zero_le _, rfl, fun j _ h => absurd h (Nat.not_lt_zero _), Gr.refl _⟩
  case round =>
    obtain ⟨k, hk, rfl, hno, hg⟩ := hrel
    have HG := Lib.hid hg
    have HN := Lib.hid hno
    clear hno hg
    by_cases hlt : k < s.L.length
    · obtain ⟨x, off, hade, hxb, q0, q1, q2⟩ := fl_at HRow.out k hlt
      have q0 := HG.out.keep q0
      have q1 := HG.out.keep q1
      have q2 := HG.out.keep q2
      have HGA := Lib.hid (HG1.out.trans HG.out)
      have HQ : Hid (s.L[k].n = n → Dk.get s.L n = s.L[k]) := fun e => by subst e; exact Dk.get_of HO.out.up (List.getElem_mem hlt)
      have HNx : Hid (s.L[k].n ≠ n → ∀ j (hj : j < s.L.length), j < k + 1 → s.L[j].n ≠ n) := fun e j hj hjk => by
        by_cases hjk2 : j < k
        · exact HN.out j hj hjk2
        · obtain rfl : j = k := by omega
          exact e
      subst hade
      clear HN HRow HO
      generalize s.L[k] = f at *
      obtain ⟨fn, fd, fy⟩ := f
      simp only at *
      have c1 : (wr.alloc (.cells #[.int .i64 fn, .string fd, .int .i64 fy] 24)).cell? ⟨g, 1, none⟩ = some (.int .i64 n) := HGA.out.alloc.keep HF.out
      by_cases e1 : fn = n
      · have HE : Hid ((Dk.get s.L n).d.size = fd.size) := by show _ = _; rw [HQ.out e1]
        clear HQ HNx
        subst e1
        go_upto_region 4 with fail
        go_region
        go_wp2
        go_ret
        exact ⟨by rw [HE.out]; first | done | rfl, HGA.out.alloc.drew⟩
      · have e1b : (fn == n) = false := by simpa using e1
        clear HQ
        go_upto_region 4 with fail
        go_region
        go_wp2
        go_roundw
        case rel => exact ⟨k + 1, by omega, by simp, HNx.out e1, HG.out.alloc.drew⟩
        case measure => simp [intOf]; omega
    · obtain rfl : k = s.L.length := by omega
      have HE : Hid (((Dk.get s.L n).d.size : Int) = 0) := get_none (fun j hj => HN.out j hj hj)
      clear HN HRow HO
      go_wp2
      go_ret
      exact ⟨by rw [HE.out]; rfl, HG1.out.trans HG.out⟩
end Go.Proofs.YtojmhhmpmpbpfaaGreatDoor
namespace Go.Proofs.YtojmhhmpmpbpfaaGreatDoor
open Go.RowKit
open Dk (Fl zf)

theorem Gr.builderAt {T e : TypeId} {B b : Nat} {p : Value} {bs : List Value} {w w' : World} (g : Gr w w') (h : Lib.BuilderAt T e B b p bs w) : Lib.BuilderAt T e B b p bs w' := by
  have hlt := h.lt
  obtain ⟨hB, v, hb, hown, hne⟩ := h
  refine ⟨hB, v, (g.below.block b hlt).trans hb, hown.kept g.grownBy ?_, hne⟩
  cases hv : v.ownBlock with
  | none => exact Or.inl rfl
  | some q => exact Or.inr (by simp)
theorem Gr.isBuilder {T e : TypeId} {B b : Nat} {bs : List Value} {w w' : World} (g : Gr w w') (h : Lib.IsBuilder T e B b bs w) : Lib.IsBuilder T e B b bs w' :=
  h.elim (fun h => Or.inl (g.builderAt h)) (fun h => Or.inr (g.builderAt h))

set_option maxHeartbeats 1000000 in
set_option maxRecDepth 100000 in
theorem begin_any (s : ByteArray) (w : World) (hT : Tab w) (hs : s.size ≤ 9223372036854775807) :
    Calls Tryz.prog 76 #[.string s] w fun e w' => e = .returned (.tuple #[.string ⟨(Sl.sealE 3 s.data.toList).1.toArray⟩, .int .i64 (Sl.sealE 3 s.data.toList).2]) ∧ Gr w w' := by
  have HS : Hid (∀ w', Gr w w' → Calls Tryz.prog 71 #[.int .i64 3, .string s] w' fun e w2 => e = .returned (.tuple #[.string ⟨(Sl.sealE 3 s.data.toList).1.toArray⟩, .int .i64 (Sl.sealE 3 s.data.toList).2]) ∧ Gr w' w2) := fun w' g => seal_any 3 s w' (hT.gr g) hs
  clear hT
  generalize Sl.sealE 3 s.data.toList = r at *
  obtain ⟨a, b⟩ := r
  go_enter Tryz.func76, Tryz.ntmps76
  go_wp2_with fail
  refine (HS.out _ (by repeat (first | exact Gr.refl _ | refine Gr.alloc ?_ | refine Gr.drew ?_ | refine Gr.trans ?_ (by assumption)))).mono ?_
  rintro e w1 ⟨rfl, hg1⟩
  go_wp2
  go_ret2
  exact ⟨rfl, (by repeat (first | exact Gr.refl _ | refine Gr.alloc ?_ | refine Gr.drew ?_ | refine Gr.trans ?_ (by assumption)))⟩

set_option maxHeartbeats 2000000 in
set_option maxRecDepth 100000 in
theorem next_any (L : List ByteArray) (ad : Option Addr) (cap : Nat) (w : World) (hT : Tab w) (hL : StrsAt w ad L) (hn : L.length ≤ 1000000) (hsz : ∀ s ∈ L, s.size ≤ 9223372036854775807) :
    Calls Tryz.prog 44 #[.slice ad L.length cap] w fun e w' => e = .returned (.tuple #[.string ⟨(Sg.next L).1.toArray⟩, .int .i64 ((Sg.next L).2 : Nat)]) ∧ Gr w w' := by
  have HT := Lib.hid hT
  have HL := Lib.hid hL
  have HZ := Lib.hid hsz
  have hfl : ∀ k, Sg.fit (L.take k) = true → (Sg.frs (L.take k)).length ≤ 30020 * k := by
    intro k hf
    have h1 := Sg.frs_len (L.take k)
    have h2 : ((L.take k).map (fun s => s.size)).sum ≤ 30000 * (L.take k).length := by
      have h3 := List.all_eq_true.1 hf
      generalize L.take k = l at *
      clear h1
      induction l with
      | nil => simp
      | cons s t ih =>
        have e1 := ih (List.all_eq_true.2 fun x hx => h3 x (by simp [hx])) (fun x hx => h3 x (by simp [hx]))
        have e2 : s.size ≤ 30000 := by simpa using h3 s (by simp)
        simp only [List.map_cons, List.sum_cons, List.length_cons]
        omega
    rw [List.length_take] at h1 h2
    omega
  have HF := Lib.hid hfl
  have hb0 : Lib.IsBuilder 125 5 w.heap.size w.heap.size [] (w.alloc (.cells #[.pointer none, .slice none 0 0] 125)) := Lib.fresh_isBuilder 125 5 w
  have HB0 := Lib.hid hb0
  clear hT hL hsz hfl hb0
  go_enter Tryz.func44, Tryz.ntmps44
  go_wp2
  go_loopw [11] (fun s11 wr => ∃ k : Nat, s11 = .int .i64 k ∧ k ≤ L.length ∧ Sg.fit (L.take k) = true ∧ Lib.IsBuilder 125 5 w.heap.size w.heap.size (Lib.byteCells (Sg.frs (L.take k))) wr ∧ Gr w wr) (fun s11 _ => L.length - (intOf s11).toNat)
  case atStart => exact ⟨0, rfl, Nat.zero_le _, by simp [Sg.fit], by rw [List.take_zero]; exact HB0.out, (Gr.refl _).alloc⟩
  case round =>
    clear HB0
    obtain ⟨k, rfl, hk, hft, hbd, hg⟩ := hrel
    by_cases hlt : k < L.length
    · obtain ⟨b, off, rfl, hb, hc⟩ := HL.out k hlt
      have hc := hg.keep hc
      have hki : (k : Int) < (L.length : Int) := by omega
      have hz := HZ.out L[k] (List.getElem_mem hlt)
      have HS : Hid (∀ w', Gr w w' → Calls Tryz.prog 71 #[.int .i64 3, .string L[k]] w' fun e w2 => e = .returned (.tuple #[.string ⟨(Sl.sealE 3 L[k].data.toList).1.toArray⟩, .int .i64 (Sl.sealE 3 L[k].data.toList).2]) ∧ Gr w' w2) := fun w' g => seal_any 3 L[k] w' (HT.out.gr g) hz
      have HM := Lib.hid (Sg.frs_more L k hlt)
      have HFT := Lib.hid (Sg.fit_take L k hlt hft)
      have hl6 := HF.out k hft
      have hsl := Sg.seal_len L[k]
      have HBd := Lib.hid hbd
      have HG := Lib.hid hg
      rw [Sg.seal3] at HS HM hsl
      by_cases hbg : L[k].size ≤ 30000
      · rw [if_pos hbg] at HS HM hsl
        rw [decide_eq_true hbg] at HFT
        generalize L[k] = x at *
        generalize Sl.frame 3 x.data.toList = tx at *
        generalize hacc : Sg.frs (L.take k) = acc at *
        clear hbd hg
        go_wp2_with fail
        refine (HS.out _ (HG.out.trans (by repeat (first | exact Gr.refl _ | refine Gr.alloc ?_ | refine Gr.drew ?_ | refine Gr.trans ?_ (by assumption))))).mono ?_
        rintro e w2 ⟨rfl, hg2⟩
        have gw2 : Gr wr w2 := (by repeat (first | exact Gr.refl _ | refine Gr.alloc ?_ | refine Gr.drew ?_ | refine Gr.trans ?_ (by assumption)))
        have hbd2 := gw2.isBuilder HBd.out
        have HG2 := Lib.hid (HG.out.trans gw2)
        have hlc : (Lib.byteCells acc).length + (⟨tx.toArray⟩ : ByteArray).size ≤ 140737488355328 := by
          rw [Lib.byteCells_length]; show acc.length + tx.toArray.size ≤ _; rw [List.size_toArray]; have hsl2 : tx.length ≤ x.size + 20 := hsl; omega
        have HWs := Lib.hid (Tryz.writeString w.heap.size w.heap.size (Lib.byteCells acc) ⟨tx.toArray⟩ w2 hbd2 hlc HG2.out.size)
        clear hbd2 hlc hg2 gw2
        go_wp2_with fail
        refine HWs.out.mono ?_
        rintro e w3 ⟨rfl, h3, b3⟩
        rw [Lib.strCells_eq, ← Lib.byteCells_append, show (⟨tx.toArray⟩ : ByteArray).data.toList = tx by simp, ← HM.out] at h3
        have HB3 : Hid (Lib.IsBuilder 125 5 w.heap.size w.heap.size (Lib.byteCells (Sg.frs (L.take (k + 1)))) w3) := Or.inr h3
        have HG3 : Hid (Gr w w3) := ⟨HG2.out.below.trans b3⟩
        clear h3 b3
        go_wp2
        go_roundw
        case rel => exact ⟨k + 1, by go_num, by omega, HFT.out, HB3.out, HG3.out⟩
        case measure => simp [intOf]; omega
      · have HN : Hid (Sg.next L = ([], 3)) := by show _ = _; unfold Sg.next; rw [Sg.fit_not L k hlt hbg]; rfl
        rw [if_neg hbg] at HS
        clear hbd hg HM HFT hsl
        generalize L[k] = x at *
        go_wp2_with fail
        refine (HS.out _ (HG.out.trans (by repeat (first | exact Gr.refl _ | refine Gr.alloc ?_ | refine Gr.drew ?_ | refine Gr.trans ?_ (by assumption))))).mono ?_
        rintro e w2 ⟨rfl, hg2⟩
        go_wp2
        go_ret2
        rw [HN.out]
        exact ⟨rfl, HG.out.trans (by repeat (first | exact Gr.refl _ | refine Gr.alloc ?_ | refine Gr.drew ?_ | refine Gr.trans ?_ (by assumption)))⟩
    · have hge : ¬ ((k : Int) < (L.length : Int)) := by omega
      have hall : L.take k = L := List.take_of_length_le (by omega)
      have HN : Hid (Sg.next L = (Sg.frs L, 0)) := by show _ = _; unfold Sg.next; rw [← hall, if_pos hft]
      rw [hall] at hbd
      have HG := Lib.hid hg
      have HSt := Lib.hid (Tryz.Builder_String_any w.heap.size w.heap.size _ wr hbd hg.size)
      clear hbd hg hall
      go_wp2_with fail
      refine HSt.out.mono ?_
      rintro e w3 ⟨rfl, hb3⟩
      have HG3 : Hid (Gr w w3) := ⟨HG.out.below.trans hb3⟩
      go_wp2
      go_ret2
      rw [HN.out]
      exact ⟨rfl, HG3.out⟩

set_option maxHeartbeats 1000000 in
set_option maxRecDepth 100000 in
theorem rise_any (L : List Fl) (ad : Option Addr) (cap : Nat) (w : World) (hL : FsAt w ad cap L) :
    Calls Tryz.prog 54 #[.slice ad L.length cap] w fun e w' => e = .returned (.bool (Sg.rise L)) ∧ Gr w w' := by
  have HL := Lib.hid hL.row
  have hl := hL.len
  have HR := Lib.hid hL.rng
  clear hL
  go_enter Tryz.func54, Tryz.ntmps54
  go_wp2
  go_loopw [3] (fun i wr => ∃ k : Nat, 1 ≤ k ∧ i = .int .i64 k ∧ (∀ j (h : j + 1 < L.length), j + 1 < k → (L[j]'(by omega)).n < L[j + 1].n) ∧ Gr w wr) (fun i _ => L.length - (intOf i).toNat)
  case atStart => exact ⟨1, Nat.le_refl _, rfl, by intro j _ h; omega, Gr.refl _⟩
  case round =>
    obtain ⟨k, hk, rfl, hup, hg⟩ := hrel
    have HU := Lib.hid hup
    have HG := Lib.hid hg
    by_cases hlt : k < L.length
    · obtain ⟨p, rfl⟩ : ∃ p, k = p + 1 := ⟨k - 1, by omega⟩
      obtain ⟨b, off, rfl, hb, c0, _⟩ := fl_at HL.out p (by omega)
      obtain ⟨b', off', e', hb', d0, _⟩ := fl_at HL.out (p + 1) hlt
      cases e'
      have c0 := hg.keep c0
      have d0 := hg.keep d0
      have hki : ((p + 1 : Nat) : Int) < (L.length : Int) := by omega
      have hpi : ((p + 1 : Nat) : Int) - 1 = (p : Int) := by omega
      have hpl : (p : Int) < (L.length : Int) := by omega
      have HN := Lib.hid (Sg.rise_not L p hlt)
      have HQ : Hid ((L[p]'(by omega)).n < L[p + 1].n → ∀ j (h : j + 1 < L.length), j + 1 < p + 1 + 1 → (L[j]'(by omega)).n < L[j + 1].n) := by
        intro h j hj hjp
        by_cases e : j = p
        · subst e; exact h
        · exact HU.out j hj (by omega)
      clear hup hg HU
      generalize hx : (L[p]'(by omega)).n = x at *
      generalize hy : L[p + 1].n = y at *
      by_cases hxy : y ≤ x
      · have d1 : decide (y ≤ x) = true := decide_eq_true hxy
        have HN2 := Lib.hid (HN.out hxy)
        go_wp2_with (go_quiet (fail))
        go_ret
        rw [HN2.out]
        exact ⟨rfl, HG.out.dn _⟩
      · have d1 : decide (y ≤ x) = false := decide_eq_false hxy
        have HQ2 := Lib.hid (HQ.out (by omega))
        go_wp2_with (go_quiet (fail))
        go_roundw
        case rel => exact ⟨p + 1 + 1, by omega, by go_num, HQ2.out, HG.out.dn _⟩
        case measure => simp [intOf]; omega
    · have hge : ¬ ((k : Int) < (L.length : Int)) := by omega
      have HN : Hid (Sg.rise L = true) := (Sg.rise_iff L).2 fun j hj => HU.out j hj (by omega)
      clear hup hg HU
      go_wp2
      go_ret
      rw [HN.out]
      exact ⟨rfl, HG.out⟩
end Go.Proofs.YtojmhhmpmpbpfaaGreatDoor
