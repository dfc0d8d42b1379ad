/- Definitions in memory: steps, readers of tokens, the map of kinds. -/
import Derived.Test.YtdliljijgokpjaaDoorRowG
import Derived.Test.YtdliljijgokpjaaDoorDefM
import Derived.Test.YtdliljijgokpjaaDoorLexQ
import Derived.Maps.OwnSet
import Derived.Maps.RangeWalk
import Derived.Sort.EncStr
namespace Go.Proofs.YtdliljijgokpjaaDoor
open Go.RowKit Go.Maps
open Lex (Tok)
open Df (Stp St tk)

def stpC (x : Stp) : List Value := [.int .i64 x.k, .string x.a, .int .i64 x.n, .int .i64 x.o, .string x.u, .int .i64 x.y, .int .i64 x.v]
theorem stpC_len (x : Stp) : (stpC x).length = 7 := rfl
abbrev StpsAt := RowAt stpC
theorem stp_one (L : List Stp) : ∀ u ∈ L.flatMap stpC, u.oneCell' = true := by
  intro u hu
  rw [List.mem_flatMap] at hu
  obtain ⟨h, _, hu⟩ := hu
  simp [stpC] at hu
  rcases hu with rfl | rfl | rfl | rfl | rfl | rfl | rfl <;> rfl
theorem StpsAt.at {w : World} {ad : Option Addr} {L : List Stp} (h : StpsAt w ad L) (k : Nat) (hk : k < L.length) : ∃ b off, ad = some ⟨b, off, none⟩ ∧ b < w.heap.size ∧
    w.cell? ⟨b, off + k * 7, none⟩ = some (.int .i64 L[k].k) ∧ w.cell? ⟨b, off + k * 7 + 1, none⟩ = some (.string L[k].a) ∧ w.cell? ⟨b, off + k * 7 + 2, none⟩ = some (.int .i64 L[k].n) ∧ w.cell? ⟨b, off + k * 7 + 3, none⟩ = some (.int .i64 L[k].o) ∧
    w.cell? ⟨b, off + k * 7 + 4, none⟩ = some (.string L[k].u) ∧ w.cell? ⟨b, off + k * 7 + 5, none⟩ = some (.int .i64 L[k].y) ∧ w.cell? ⟨b, off + k * 7 + 6, none⟩ = some (.int .i64 L[k].v) := by
  have g := fun i hi => flat_get stpC_len L k hk i hi
  obtain ⟨b, off, rfl, hb, c0⟩ := h _ _ (g 0 (by omega))
  obtain ⟨_, _, e, _, c1⟩ := h _ _ (g 1 (by omega)); cases e
  obtain ⟨_, _, e, _, c2⟩ := h _ _ (g 2 (by omega)); cases e
  obtain ⟨_, _, e, _, c3⟩ := h _ _ (g 3 (by omega)); cases e
  obtain ⟨_, _, e, _, c4⟩ := h _ _ (g 4 (by omega)); cases e
  obtain ⟨_, _, e, _, c5⟩ := h _ _ (g 5 (by omega)); cases e
  obtain ⟨_, _, e, _, c6⟩ := h _ _ (g 6 (by omega)); cases e
  rw [← Nat.add_assoc] at c1 c2 c3 c4 c5 c6
  exact ⟨b, off, rfl, hb, c0, c1, c2, c3, c4, c5, c6⟩
theorem infoStp : (Tryd.prog.info? 47).map (fun i => (i.zero, i.size, i.bytes)) = some (some (.agg #[.int .i64 0, .string ⟨#[]⟩, .int .i64 0, .int .i64 0, .string ⟨#[]⟩, .int .i64 0, .int .i64 0]), 7, 72) := by kernel_rfl

/- nothing has turned but one block -/
structure GB (b : Nat) (w w' : World) : Prop where
  g : w.grownBy w' (some b)
theorem GB.ofGr {b : Nat} {w w' : World} (g : Gr w w') : GB b w w' := ⟨⟨g.below.os, g.below.tape, g.below.output, g.size, fun k hk _ => g.below.block k hk⟩⟩
theorem GB.refl (b : Nat) (w : World) : GB b w w := GB.ofGr (Gr.refl _)
theorem GB.size {b : Nat} {w w' : World} (h : GB b w w') : w.heap.size ≤ w'.heap.size := h.g.size
theorem GB.trans {b : Nat} {u v w : World} (h : GB b u v) (k : GB b v w) : GB b u w := by
  have hs := h.size
  refine ⟨⟨?_, ?_, ?_, Nat.le_trans h.size k.size, ?_⟩⟩
  · exact k.g.os.trans h.g.os
  · exact k.g.tape.trans h.g.tape
  · exact k.g.output.trans h.g.output
  · intro i hi hne
    exact (k.g.block i (by omega) hne).trans (h.g.block i hi hne)
theorem GB.alloc {b : Nat} {a w : World} (h : GB b a w) {o : Obj} : GB b a (w.alloc o) := h.trans (GB.ofGr (Gr.refl _).alloc)
theorem GB.drew {b : Nat} {a w : World} (h : GB b a w) : GB b a w.drew := h.trans (GB.ofGr (Gr.refl _).drew)
theorem GB.gr {b : Nat} {a w w' : World} (h : GB b a w) (g : Gr w w') : GB b a w' := h.trans (GB.ofGr g)
theorem GB.setNew {b : Nat} {a w : World} (h : GB b a w) (p : Addr) (v : Value) (hp : a.heap.size ≤ p.block ∨ p.block = b) : GB b a (w.setCell p v) :=
  ⟨⟨h.g.os, h.g.tape, h.g.output, by simpa [World.setCell] using h.size, fun k hk hne => (Below.heap_setCell _ _ _ _ (fun e => by
    rcases hp with hp | hp
    · omega
    · exact hne (by rw [e, hp]))).trans (h.g.block k hk hne)⟩⟩
theorem GB.keep {b : Nat} {w w' : World} (h : GB b w w') {g o : Nat} {v : Value} (hg : g < w.heap.size) (hne : g ≠ b) (hc : w.cell? ⟨g, o, none⟩ = some v) : w'.cell? ⟨g, o, none⟩ = some v := by
  rw [← hc]; exact World.cell?_of_block (w := w) (h.g.block g hg (by simp; omega))
theorem GB.keepF {b : Nat} {w w' : World} (h : GB b w w') {g o : Nat} {v : Bool} (hg : g < w.heap.size) (hne : g ≠ b) (hc : w.frozen? ⟨g, o, none⟩ = v) : w'.frozen? ⟨g, o, none⟩ = v := by
  rw [← hc]; exact World.frozen?_of_block (w := w) (h.g.block g hg (by simp; omega))
theorem Gr.gb {b : Nat} {a w w' : World} (g : Gr a w) (h : GB b w w') (hb : a.heap.size ≤ b) : Gr a w' := ⟨g.below.grown h.g g.size (fun k e => by cases e; exact hb)⟩

/- the kinds by their words, as a map -/
def ks (s : ByteArray) : Lit := .string s.data.toList
def kD : DataW Unit := ((((DataW.map []).put (ks Df.wDebit) (.lit (.int .i64 1))).put (ks Df.wCredit) (.lit (.int .i64 2))).put (ks Df.wReserve) (.lit (.int .i64 3))).put (ks Df.wRelease) (.lit (.int .i64 4))
def MapK (w : World) (m : Nat) : Prop := w.ownsMap Tryd.prog 9 (plainElem (H := Unit) Tryd.prog 3) m 4 kD
theorem ks_inj {s t : ByteArray} (h : ks s = ks t) : s = t := Lex.list_bytes (by unfold ks at h; exact Lit.string.inj h)
theorem ks_key (s : ByteArray) : WideAt.IsKeyLit (ks s) := trivial
theorem kD_at (s : ByteArray) (z : DataW Unit) : kD.atKey (ks s) z = if Df.kw s = 0 then z else .lit (.int .i64 (Df.kw s)) := by
  unfold kD Df.kw
  by_cases h4 : s = Df.wRelease
  · subst h4
    rw [atKey_put_same (isMap_empty.put _ _ |>.put _ _ |>.put _ _) (ks_key _)]; rfl
  · rw [atKey_put_other (fun e => h4 (ks_inj e))]
    by_cases h3 : s = Df.wReserve
    · subst h3
      rw [atKey_put_same (isMap_empty.put _ _ |>.put _ _) (ks_key _)]; rfl
    · rw [atKey_put_other (fun e => h3 (ks_inj e))]
      by_cases h2 : s = Df.wCredit
      · subst h2
        rw [atKey_put_same (isMap_empty.put _ _) (ks_key _)]; rfl
      · rw [atKey_put_other (fun e => h2 (ks_inj e))]
        by_cases h1 : s = Df.wDebit
        · subst h1
          rw [atKey_put_same isMap_empty (ks_key _)]; rfl
        · rw [atKey_put_other (fun e => h1 (ks_inj e))]
          rw [if_neg h1, if_neg h2, if_neg h3, if_neg h4, if_pos rfl]; rfl
theorem kD_has (s : ByteArray) : Maps.has kD (ks s) = decide (Df.kw s ≠ 0) := by
  by_cases h : Df.kw s = 0
  · rw [decide_eq_false (fun e => e h)]
    exact has_false_of_atKey (fun z => by rw [kD_at, if_pos h])
  · rw [decide_eq_true h]
    exact has_true_of_atKey (y := .lit (.int .i64 (Df.kw s))) (fun z => by rw [kD_at, if_neg h])
theorem MapK.gr {w w' : World} {m : Nat} (h : MapK w m) (g : Gr w w') : MapK w' m := World.ownsMap.kept h (row := none) ⟨g.below.os, g.below.tape, g.below.output, g.size, fun k hk _ => g.below.block k hk⟩ (by simp)
theorem MapK.set {w : World} {m : Nat} (h : MapK w m) (p : Addr) (v : Value) (hp : p.block ≠ m) : MapK (w.setCell p v) m := World.ownsMap.setCell h (fun e => hp e.symm) v
theorem MapK.lt {w : World} {m : Nat} (h : MapK w m) : m < w.heap.size := World.ownsMap.lt h

/- a reader in memory -/
structure Rd (w : World) (b m : Nat) (ad : Option Addr) (T : List Tok) (cap : Nat) (q : St) : Prop where
  c0 : w.cell? ⟨b, 0, none⟩ = some (.slice ad T.length cap)
  c1 : w.cell? ⟨b, 1, none⟩ = some (.int .i64 (q.i : Int))
  c2 : w.cell? ⟨b, 2, none⟩ = some (.bool q.s)
  c3 : w.cell? ⟨b, 3, none⟩ = some (.map (some m))
  f1 : w.frozen? ⟨b, 1, none⟩ = false
  f2 : w.frozen? ⟨b, 2, none⟩ = false
  lt : b < w.heap.size
  ts : ToksAt w ad T
  na : ∀ a, ad = some a → a.block ≠ b ∧ a.block < w.heap.size
  mp : MapK w m
  nm : m ≠ b
theorem Rd.gr {w w' : World} {b m : Nat} {ad : Option Addr} {T : List Tok} {cap : Nat} {q : St} (h : Rd w b m ad T cap q) (g : Gr w w') : Rd w' b m ad T cap q :=
  ⟨g.keep h.c0, g.keep h.c1, g.keep h.c2, g.keep h.c3, g.keepF h.lt h.f1, g.keepF h.lt h.f2, Nat.lt_of_lt_of_le h.lt g.size, h.ts.gr g, fun a e => ⟨(h.na a e).1, Nat.lt_of_lt_of_le (h.na a e).2 g.size⟩, h.mp.gr g, h.nm⟩
theorem Rd.set1 {w : World} {b m : Nat} {ad : Option Addr} {T : List Tok} {cap : Nat} {q : St} (h : Rd w b m ad T cap q) (i : Nat) : Rd (w.setCell ⟨b, 1, none⟩ (.int .i64 (i : Int))) b m ad T cap ⟨i, q.s⟩ := by
  obtain ⟨c0, c1, c2, c3, f1, f2, lt, ts, na, mp, nm⟩ := h
  exact ⟨by simp [go_sem, *], by simp [go_sem, *], by simp [go_sem, *], by simp [go_sem, *], by simp [go_sem, *], by simp [go_sem, *], by simpa using lt, ts.setFar _ _ (fun a e => (na a e).1.symm), fun a e => ⟨(na a e).1, by simpa using (na a e).2⟩, mp.set _ _ nm.symm, nm⟩
theorem Rd.set2 {w : World} {b m : Nat} {ad : Option Addr} {T : List Tok} {cap : Nat} {q : St} (h : Rd w b m ad T cap q) (s : Bool) : Rd (w.setCell ⟨b, 2, none⟩ (.bool s)) b m ad T cap ⟨q.i, s⟩ := by
  obtain ⟨c0, c1, c2, c3, f1, f2, lt, ts, na, mp, nm⟩ := h
  exact ⟨by simp [go_sem, *], by simp [go_sem, *], by simp [go_sem, *], by simp [go_sem, *], by simp [go_sem, *], by simp [go_sem, *], by simpa using lt, ts.setFar _ _ (fun a e => (na a e).1.symm), fun a e => ⟨(na a e).1, by simpa using (na a e).2⟩, mp.set _ _ nm.symm, nm⟩
theorem Rd.setFar {w : World} {b m : Nat} {ad : Option Addr} {T : List Tok} {cap : Nat} {q : St} (h : Rd w b m ad T cap q) (p : Addr) (v : Value) (hb : p.block ≠ b) (hm : p.block ≠ m) (ha : ∀ a, ad = some a → p.block ≠ a.block) : Rd (w.setCell p v) b m ad T cap q := by
  have key : ∀ o, (w.setCell p v).cell? ⟨b, o, none⟩ = w.cell? ⟨b, o, none⟩ := fun o => World.cell?_setCell_far _ _ _ _ (by simpa using hb)
  have keyF : ∀ o, (w.setCell p v).frozen? ⟨b, o, none⟩ = w.frozen? ⟨b, o, none⟩ := fun o => World.frozen?_setCell _ _ _ _
  exact ⟨(key 0).trans h.c0, (key 1).trans h.c1, (key 2).trans h.c2, (key 3).trans h.c3, (keyF 1).trans h.f1, (keyF 2).trans h.f2, by simpa using h.lt, h.ts.setFar _ _ ha, fun a e => ⟨(h.na a e).1, by simpa using (h.na a e).2⟩, h.mp.set _ _ hm, h.nm⟩
/- where all that a reader leads to lies below a world's end -/
theorem Rd.setTop {w : World} {b m : Nat} {ad : Option Addr} {T : List Tok} {cap : Nat} {q q0 : St} {w0 : World} (h : Rd w b m ad T cap q) (h0 : Rd w0 b m ad T cap q0) (p : Addr) (v : Value) (hp : w0.heap.size ≤ p.block) : Rd (w.setCell p v) b m ad T cap q :=
  h.setFar p v (by have := h0.lt; omega) (by have := h0.mp.lt; omega) (fun a e => by have := (h0.na a e).2; omega)
end Go.Proofs.YtdliljijgokpjaaDoor
