
/- Wheels in memory: the map of what is due, the slots, what a wheel owns, what a call may turn. -/
import Derived.Test.YtmgiiofjlgchfaaDoorRowG
import Derived.Test.YtmgiiofjlgchfaaDoorWhC
import Derived.StringKeys
import Derived.Sort.KeysCollected
import Derived.Maps.OwnSet
namespace Go.Proofs.YtmgiiofjlgchfaaDoor
open Go.RowKit Go.Maps
open Wh (Tm Sl ks hasK atK del ins put)

theorem strLaw : Keyed Tryd.prog 9 := string_keyed Tryd.underlying9
theorem zeroInt (w : World) : (zeroValue 3).run Tryd.prog w = .ok (.int .i64 0) w := by kernel_rfl
def kL (s : ByteArray) : Lit := .string s.data.toList
theorem kL_inj {s t : ByteArray} (h : kL s = kL t) : s = t := by
  unfold kL at h
  have := Lit.string.inj h
  cases s; cases t
  simp at this
  rw [this]
theorem key_any (s : ByteArray) (h : s.size ≤ 9223372036854775807) : keyOf Tryd.prog 9 (.string s) = some (kL s) := WideMaps.keyOf_string_mk Tryd.underlying9 (by unfold maxLen; omega)

/- the map reads as the timers -/
structure Rep (D : DataW Unit) (L : List Tm) : Prop where
  has : ∀ k, Maps.has D (kL k) = hasK L k
  at_ : ∀ x ∈ L, ∀ z, D.atKey (kL x.1) z = .lit (.int .i64 (x.2 : Int))
  size : Maps.size D = L.length
theorem Rep.nil : Rep (.map []) [] := ⟨fun k => rfl, by simp, rfl⟩
theorem hasK_perm {L M : List Tm} (h : L.Perm M) (k : ByteArray) : hasK L k = hasK M k := h.any_eq
theorem Rep.perm {D : DataW Unit} {L M : List Tm} (h : Rep D L) (p : L.Perm M) : Rep D M :=
  ⟨fun k => by rw [h.has, hasK_perm p], fun x hx => h.at_ x (p.mem_iff.2 hx), by rw [h.size, p.length_eq]⟩
theorem isKeyLit (k : ByteArray) : WideAt.IsKeyLit (kL k) := trivial
theorem Rep.put {D : DataW Unit} {L : List Tm} (h : Rep D L) (hm : Tidy D) {k : ByteArray} {a : Nat} (hk : hasK L k = false) : Rep (D.put (kL k) (.lit (.int .i64 (a : Int)))) ((k, a) :: L) := by
  refine ⟨fun k' => ?_, fun x hx z => ?_, ?_⟩
  · by_cases e : k' = k
    · subst e
      rw [has_put_same hm.isMap (isKeyLit _)]
      simp [hasK]
    · rw [has_put_other (fun e' => e (kL_inj e')), h.has]
      have : ¬ k = k' := fun e' => e e'.symm
      simp [hasK, this]
  · rcases List.mem_cons.1 hx with rfl | hx
    · rw [atKey_put_same hm.isMap (isKeyLit _)]
    · have : kL x.1 ≠ kL k := fun e => by
        have := Wh.hasK_of hx
        rw [kL_inj e, hk] at this; cases this
      rw [atKey_put_other this]
      exact h.at_ x hx z
  · rw [size_put hm, h.has, hk, h.size]; rfl
theorem Rep.del {D : DataW Unit} {L : List Tm} (h : Rep D L) (hm : Tidy D) (hn : (ks L).Nodup) {k : ByteArray} (hk : hasK L k = true) : Rep (D.del (kL k)) (Wh.del L k) := by
  refine ⟨fun k' => ?_, fun x hx z => ?_, ?_⟩
  · by_cases e : k' = k
    · subst e
      rw [has_del_same, Wh.del_has]
    · rw [has_del_other (fun e' => e (kL_inj e')), h.has]
      unfold Wh.del hasK
      rw [List.any_filter]
      congr 1
      funext x
      by_cases e2 : x.1 = k'
      · have : ¬ x.1 = k := fun e3 => e (by rw [← e2, e3])
        simp [e2, e]
      · simp [e2]
  · obtain ⟨hx1, hx2⟩ := List.mem_filter.1 hx
    rw [atKey_del_other (fun e => by simp [kL_inj e] at hx2)]
    exact h.at_ x hx1 z
  · have := size_del (k := kL k) hm
    rw [h.has, hk, h.size, ← Wh.del_len hn hk] at this
    simpa using this
def DueAt (w : World) (m : Nat) (L : List Tm) : Prop := ∃ D, w.ownsMap Tryd.prog 9 (plainElem (H := Unit) Tryd.prog 3) m L.length D ∧ Rep D L
theorem DueAt.lt {w : World} {m : Nat} {L : List Tm} (h : DueAt w m L) : m < w.heap.size := by
  obtain ⟨D, h, _⟩ := h
  exact h.lt
theorem DueAt.keep {w w' : World} {m : Nat} {L : List Tm} (h : DueAt w m L) (e : w'.heap[m]? = w.heap[m]?) : DueAt w' m L := by
  obtain ⟨D, ⟨es, cl, h1, h2⟩, hr⟩ := h
  exact ⟨D, ⟨es, cl, e.trans h1, h2⟩, hr⟩
theorem own_exact {w : World} {P : Program} {k : TypeId} {R : Value → Option (DataW Unit × List MemPlace)} {b n : Nat} {D : DataW Unit} (h : w.ownsMap P k R b n D) : w.ownsMap P k R b (Maps.size D) D := by
  obtain ⟨es, cl, h1, h2, h3, rfl⟩ := h
  exact ⟨es, cl, h1, h2, by simp [Maps.size, length_sorted], rfl⟩
theorem DueAt.perm {w : World} {m : Nat} {L M : List Tm} (h : DueAt w m L) (p : L.Perm M) : DueAt w m M := by
  obtain ⟨D, h, r⟩ := h
  exact ⟨D, by rw [← p.length_eq]; exact h, r.perm p⟩
/- a look-up -/
theorem DueAt.look {w : World} {m : Nat} {L : List Tm} {t : TypeId} (h : DueAt w m L) (hn : (ks L).Nodup) (ht : Tryd.prog.underlying t = some (.map 9 3)) (k : ByteArray) (hk : k.size ≤ 9223372036854775807) :
    (Instr.lookup t (.map (some m)) (.string k) true).run Tryd.prog w = .ok (.tuple #[.int .i64 (atK L k : Int), .bool (hasK L k)]) w ∧ (Instr.lookup t (.map (some m)) (.string k) false).run Tryd.prog w = .ok (.int .i64 (atK L k : Int)) w := by
  obtain ⟨D, h, r⟩ := h
  have hz0 : plainElem (H := Unit) Tryd.prog 3 (.int .i64 0) = some (.lit (.int .i64 0), []) := plainElem_int Tryd.underlying3 (by decide)
  have hat : D.atKey (kL k) (.lit (.int .i64 0)) = .lit (.int .i64 (atK L k : Int)) := by
    cases hh : hasK L k with
    | false => rw [atKey_of_not_has (by rw [r.has, hh]), Wh.atK_not hh]; rfl
    | true =>
      obtain ⟨a, ha⟩ := Wh.hasK_mem hh
      have e := Wh.atK_of hn ha
      simp only at e
      rw [r.at_ _ ha, e]
  constructor
  · obtain ⟨v, ps, h1, h2⟩ := h.look_ok strLaw ht (zeroInt w) hz0 (key_any k hk)
    obtain ⟨c, rfl, hc, _⟩ := plainElem_int_inv Tryd.underlying3 h2
    rw [hat] at hc
    injection hc with hc
    injection hc with hc
    injection hc with _ hc
    rw [h1, r.has, hc]
  · obtain ⟨c, h1, h2, _⟩ := h.lookup_int strLaw ht Tryd.underlying3 (zeroInt w) (key_any k hk)
    rw [hat] at h2
    injection h2 with h2
    injection h2 with _ h2
    rw [h1, h2]
theorem DueAt.len {w : World} {m : Nat} {L : List Tm} {t : TypeId} (h : DueAt w m L) (ht : Tryd.prog.underlying t = some (.map 9 3)) (ty : TypeId) : (Builtin.len_ #[t] ty #[.map (some m)]).run Tryd.prog w = .ok (.int .i64 (L.length : Int)) w := by
  obtain ⟨D, h, r⟩ := h
  rw [h.len ht ty, r.size]
theorem DueAt.put {w : World} {m : Nat} {L : List Tm} {t : TypeId} (h : DueAt w m L) (ht : Tryd.prog.underlying t = some (.map 9 3)) {k : ByteArray} {a : Nat} (hk : k.size ≤ 9223372036854775807) (hh : hasK L k = false) (hL : L.length < 1000) (ha : a < 4611686018427387904) :
    ∃ w', (Instr.mapUpdate t (.map (some m)) (.string k) (.int .i64 (a : Int))).run Tryd.prog w = .ok () w' ∧ DueAt w' m ((k, a) :: L) ∧ w.grownBy w' (some m) ∧ w'.heap.size = w.heap.size := by
  obtain ⟨D, h, r⟩ := h
  have hwf : (Lit.int .i64 (a : Int)).wf = true := WalkArith.wf_i64 (by omega)
  obtain ⟨w', h1, h2, h3⟩ := h.store strLaw ht (by unfold maxLen; omega) (key_any k hk) (plainElem_int Tryd.underlying3 hwf)
  refine ⟨w', h1, ⟨_, ?_, r.put (h.tidy strLaw) hh⟩, h3.grown, ?_⟩
  · have e := own_exact h2
    rw [(r.put (h.tidy strLaw) hh).size] at e
    exact e
  · obtain ⟨_, _, _, _, _, rfl⟩ := h3
    simp [ChangeMaps.setBlock]
theorem DueAt.drop {w : World} {m : Nat} {L : List Tm} {t : TypeId} (h : DueAt w m L) (hn : (ks L).Nodup) (ht : Tryd.prog.underlying t = some (.map 9 3)) {k : ByteArray} (hk : k.size ≤ 9223372036854775807) (hh : hasK L k = true) (ty : TypeId) :
    ∃ w', (Builtin.delete_ #[t, 9] ty #[.map (some m), .string k]).run Tryd.prog w = .ok (.tuple #[]) w' ∧ DueAt w' m (Wh.del L k) ∧ w.grownBy w' (some m) ∧ w'.heap.size = w.heap.size := by
  obtain ⟨D, h, r⟩ := h
  obtain ⟨w', h1, h2, h3⟩ := h.drop strLaw ht (key_any k hk) ty
  refine ⟨w', h1, ⟨_, ?_, r.del (h.tidy strLaw) hn hh⟩, h3.grown, ?_⟩
  · have e := own_exact h2
    rw [(r.del (h.tidy strLaw) hn hh).size] at e
    exact e
  · obtain ⟨_, _, _, _, _, rfl⟩ := h3
    simp [ChangeMaps.setBlock]

/- a wheel in memory -/
abbrev Vl := Nat → Nat → Value
def own (b m : Nat) (V : Vl) (j : Nat) : Prop := j = b ∨ j = m ∨ ∃ g d, g < 6 ∧ d < 32 ∧ (V g d).ownBlock = some j
def strs (l : List ByteArray) : List Value := l.map .string
structure WAt (w : World) (b m t : Nat) (L : List Tm) (S : Sl) (V : Vl) : Prop where
  now : w.cell? ⟨b, 0, none⟩ = some (.int .i64 (t : Int))
  mp : w.cell? ⟨b, 1, none⟩ = some (.map (some m))
  fz : ∀ o, o < 194 → w.frozen? ⟨b, o, none⟩ = false
  sl : ∀ g d, g < 6 → d < 32 → w.cell? ⟨b, 2 + g * 32 + d, none⟩ = some (V g d)
  due : DueAt w m L
  row : ∀ g d, g < 6 → d < 32 → w.ownsRow 0 9 1 (V g d) (S g d).length (strs (S g d))
  apart : ∀ g d g' d' j, g < 6 → d < 32 → g' < 6 → d' < 32 → (V g d).ownBlock = some j → (V g' d').ownBlock = some j → g = g' ∧ d = d'
  off : ∀ g d, g < 6 → d < 32 → (V g d).ownBlock ≠ some b ∧ (V g d).ownBlock ≠ some m
theorem WAt.lt {w : World} {b m t : Nat} {L : List Tm} {S : Sl} {V : Vl} (h : WAt w b m t L S V) : b < w.heap.size := World.block_lt_of_cell? w _ h.now
theorem WAt.ne {w : World} {b m t : Nat} {L : List Tm} {S : Sl} {V : Vl} (h : WAt w b m t L S V) : b ≠ m := by
  rintro rfl
  obtain ⟨D, ⟨es, cl, h1, _⟩, _⟩ := h.due
  have := h.now
  simp [World.cell?, h1] at this
theorem WAt.own_lt {w : World} {b m t : Nat} {L : List Tm} {S : Sl} {V : Vl} (h : WAt w b m t L S V) {j : Nat} (hj : own b m V j) : j < w.heap.size := by
  rcases hj with rfl | rfl | ⟨g, d, hg, hd, hj⟩
  · exact h.lt
  · exact h.due.lt
  · exact ((h.row g d hg hd).lt j hj).2
theorem row_keep {w w' : World} {base : Nat} {e : TypeId} {size n : Nat} {v : Value} {xs : List Value} (h : w.ownsRow base e size v n xs) (hk : ∀ j, v.ownBlock = some j → w'.heap[j]? = w.heap[j]?) : w'.ownsRow base e size v n xs := by
  obtain ⟨h1, ⟨rfl, h2⟩ | ⟨g, cap, cur, rfl, h3, h4, h5⟩⟩ := h
  · exact ⟨h1, Or.inl ⟨rfl, h2⟩⟩
  · exact ⟨h1, Or.inr ⟨g, cap, cur, rfl, h3, (hk g rfl).trans h4, h5⟩⟩
theorem WAt.keep {w w' : World} {b m t : Nat} {L : List Tm} {S : Sl} {V : Vl} (h : WAt w b m t L S V) (hk : ∀ j, own b m V j → w'.heap[j]? = w.heap[j]?) : WAt w' b m t L S V := by
  have hb := hk b (Or.inl rfl)
  refine ⟨?_, ?_, ?_, ?_, h.due.keep (hk m (Or.inr (Or.inl rfl))), ?_, h.apart, h.off⟩
  · rw [World.cell?_of_block (w := w) hb]; exact h.now
  · rw [World.cell?_of_block (w := w) hb]; exact h.mp
  · intro o ho; rw [World.frozen?_of_block (w := w) hb]; exact h.fz o ho
  · intro g d hg hd; rw [World.cell?_of_block (w := w) hb]; exact h.sl g d hg hd
  · intro g d hg hd
    exact row_keep (h.row g d hg hd) (fun j hj => hk j (Or.inr (Or.inr ⟨g, d, hg, hd, hj⟩)))
theorem WAt.gr {w w' : World} {b m t : Nat} {L : List Tm} {S : Sl} {V : Vl} (h : WAt w b m t L S V) (g : Gr w w') : WAt w' b m t L S V :=
  h.keep fun j hj => g.below.block j (h.own_lt hj)
theorem WAt.grown {w w' : World} {b m t : Nat} {L : List Tm} {S : Sl} {V : Vl} {r : Option Nat} (h : WAt w b m t L S V) (g : w.grownBy w' r) (hr : ∀ j, r = some j → ¬ own b m V j) : WAt w' b m t L S V :=
  h.keep fun j hj => g.block j (h.own_lt hj) (fun e => hr j e.symm hj)
/- what a call on a wheel may turn -/
structure Tn (w w' : World) (b m : Nat) (V V' : Vl) : Prop where
  os : w'.os = w.os
  tape : w'.tape = w.tape
  output : w'.output = w.output
  size : w.heap.size ≤ w'.heap.size
  block : ∀ j, j < w.heap.size → ¬ own b m V j → w'.heap[j]? = w.heap[j]?
  new : ∀ j, own b m V' j → own b m V j ∨ w.heap.size ≤ j
theorem Tn.gr {w w' : World} {b m : Nat} {V : Vl} (g : Gr w w') : Tn w w' b m V V :=
  ⟨g.below.os, g.below.tape, g.below.output, g.size, fun j hj _ => g.below.block j hj, fun _ h => Or.inl h⟩
theorem Tn.refl (w : World) (b m : Nat) (V : Vl) : Tn w w b m V V := Tn.gr (Gr.refl w)
theorem Tn.trans {a w w' : World} {b m : Nat} {V V1 V2 : Vl} (h : Tn a w b m V V1) (k : Tn w w' b m V1 V2) : Tn a w' b m V V2 := by
  have hs := h.size
  refine ⟨k.os.trans h.os, k.tape.trans h.tape, k.output.trans h.output, Nat.le_trans h.size k.size, fun j hj hn => ?_, fun j hj => ?_⟩
  · rw [k.block j (by omega) (fun ho => (h.new j ho).elim hn (fun hc => by omega)), h.block j hj hn]
  · rcases k.new j hj with h1 | h1
    · exact h.new j h1
    · exact Or.inr (by omega)
theorem Tn.of_grown {w w' : World} {b m : Nat} {V : Vl} {r : Option Nat} (g : w.grownBy w' r) (hr : ∀ j, r = some j → own b m V j ∨ w.heap.size ≤ j) : Tn w w' b m V V :=
  ⟨g.os, g.tape, g.output, g.size, fun j hj hn => g.block j hj (fun e => (hr j e.symm).elim hn (fun hc => by omega)), fun _ h => Or.inl h⟩
theorem Tn.gr' {a w w' : World} {b m : Nat} {V V1 : Vl} (h : Tn a w b m V V1) (g : Gr w w') : Tn a w' b m V V1 := h.trans (Tn.gr g)
/- of another wheel's blocks none is turned -/
theorem WAt.other {w w' : World} {b m t : Nat} {L : List Tm} {S : Sl} {V : Vl} (h : WAt w b m t L S V) {b2 m2 : Nat} {V2 V2' : Vl} (k : Tn w w' b2 m2 V2 V2') (hd : ∀ j, own b m V j → ¬ own b2 m2 V2 j) : WAt w' b m t L S V :=
  h.keep fun j hj => k.block j (h.own_lt hj) (hd j hj)
theorem Tn.row {α : Type} {f : α → List Value} {w w' : World} {b m : Nat} {V V' : Vl} (k : Tn w w' b m V V') {ad : Option Addr} {l : List α} (h : RowAt f w ad l) (hd : ∀ a, ad = some a → ¬ own b m V a.block) : RowAt f w' ad l := by
  intro j u hu
  obtain ⟨x, off, rfl, hb, h1⟩ := h j u hu
  exact ⟨x, off, rfl, Nat.lt_of_lt_of_le hb k.size, by rw [World.cell?_of_block (w := w) (k.block x hb (hd _ rfl))]; exact h1⟩

/- the time -/
theorem heap_set_ne (w : World) (p : Addr) (u : Value) (j : Nat) (h : j ≠ p.block) : (w.setCell p u).heap[j]? = w.heap[j]? := Below.heap_setCell w p u j h
theorem WAt.setNow {w : World} {b m t : Nat} {L : List Tm} {S : Sl} {V : Vl} (h : WAt w b m t L S V) (u : Nat) : WAt (w.setCell ⟨b, 0, none⟩ (.int .i64 (u : Int))) b m u L S V := by
  have hne := h.ne
  have h0 := h.now
  have f0 := h.fz 0 (by omega)
  refine ⟨by simp [go_sem, *], ?_, ?_, ?_, ?_, ?_, h.apart, h.off⟩
  · have := h.mp; simp [go_sem, *]
  · intro o ho; rw [World.frozen?_setCell]; exact h.fz o ho
  · intro g d hg hd
    have := h.sl g d hg hd
    rw [World.cell?_setCell_other _ _ _ _ (by simp <;> omega)]; exact this
  · exact h.due.keep (heap_set_ne _ _ _ _ (fun e => hne e.symm))
  · intro g d hg hd
    refine row_keep (h.row g d hg hd) (fun j hj => heap_set_ne _ _ _ _ ?_)
    rintro rfl
    exact (h.off g d hg hd).1 hj
theorem Tn.set {w : World} {b m : Nat} {V : Vl} (p : Addr) (u : Value) (hp : own b m V p.block) : Tn w (w.setCell p u) b m V V :=
  ⟨rfl, rfl, rfl, by simp [World.setCell], fun j _ hn => heap_set_ne _ _ _ _ (fun e => hn (by rw [e]; exact hp)), fun _ h => Or.inl h⟩
/- the map -/
theorem WAt.setDue {w w' : World} {b m t : Nat} {L L' : List Tm} {S : Sl} {V : Vl} (h : WAt w b m t L S V) (g : w.grownBy w' (some m)) (hd : DueAt w' m L') : WAt w' b m t L' S V := by
  have hb := g.block b h.lt (fun e => h.ne (by injection e))
  refine ⟨?_, ?_, ?_, ?_, hd, ?_, h.apart, h.off⟩
  · rw [World.cell?_of_block (w := w) hb]; exact h.now
  · rw [World.cell?_of_block (w := w) hb]; exact h.mp
  · intro o ho; rw [World.frozen?_of_block (w := w) hb]; exact h.fz o ho
  · intro g d hg hd; rw [World.cell?_of_block (w := w) hb]; exact h.sl g d hg hd
  · intro g' d h1 h2
    refine row_keep (h.row g' d h1 h2) (fun j hj => g.block j ((h.row g' d h1 h2).lt j hj).2 (fun e => ?_))
    injection e with e
    subst e
    exact (h.off g' d h1 h2).2 hj
/- a slot -/
def setV (V : Vl) (g d : Nat) (v : Value) : Vl := fun g' d' => if g' = g ∧ d' = d then v else V g' d'
theorem setV_same (V : Vl) (g d : Nat) (v : Value) : setV V g d v g d = v := by simp [setV]
theorem setV_other (V : Vl) {g d g' d' : Nat} (v : Value) (h : ¬ (g' = g ∧ d' = d)) : setV V g d v g' d' = V g' d' := by simp only [setV, if_neg h]
theorem WAt.setSlot {w w' : World} {b m t : Nat} {L : List Tm} {S : Sl} {V : Vl} (h : WAt w b m t L S V) {g d : Nat} (hg : g < 6) (hd : d < 32) (k : w.grownBy w' (V g d).ownBlock) {v : Value} {l : List ByteArray} (ho : w'.ownsRow 0 9 1 v l.length (strs l))
    (hl : ∀ j, v.ownBlock = some j → (V g d).ownBlock = some j ∨ w.heap.size ≤ j) : WAt (w'.setCell ⟨b, 2 + g * 32 + d, none⟩ v) b m t L (put S g d l) (setV V g d v) ∧ Tn w (w'.setCell ⟨b, 2 + g * 32 + d, none⟩ v) b m V (setV V g d v) := by
  have hbb := k.block b h.lt (fun e => (h.off g d hg hd).1 e.symm)
  have hmm := k.block m h.due.lt (fun e => (h.off g d hg hd).2 e.symm)
  have hcell : ∀ o, w'.cell? ⟨b, o, none⟩ = w.cell? ⟨b, o, none⟩ := fun o => World.cell?_of_block (w := w) hbb
  have hfz : ∀ o, w'.frozen? ⟨b, o, none⟩ = w.frozen? ⟨b, o, none⟩ := fun o => World.frozen?_of_block (w := w) hbb
  have hbl : b < w'.heap.size := Nat.lt_of_lt_of_le h.lt k.size
  have hwb : ∀ j, own b m V j → j ≠ b → some j ≠ (V g d).ownBlock → (w'.setCell ⟨b, 2 + g * 32 + d, none⟩ v).heap[j]? = w.heap[j]? := fun j hj hne hj2 => by
    rw [heap_set_ne _ _ _ _ (by simpa using hne)]
    exact k.block j (h.own_lt hj) hj2
  refine ⟨⟨?_, ?_, ?_, ?_, ?_, ?_, ?_, ?_⟩, ⟨k.os, k.tape, k.output, by simpa using k.size, ?_, ?_⟩⟩
  · rw [World.cell?_setCell_other _ _ _ _ (by simp <;> omega), hcell]; exact h.now
  · rw [World.cell?_setCell_other _ _ _ _ (by simp <;> omega), hcell]; exact h.mp
  · intro o ho; rw [World.frozen?_setCell, hfz]; exact h.fz o ho
  · intro g' d' hg' hd'
    by_cases hh : g' = g ∧ d' = d
    · obtain ⟨rfl, rfl⟩ := hh
      rw [setV_same]
      have h1 := h.sl g' d' hg hd
      rw [← hcell] at h1
      exact World.cell?_setCell_same _ _ _ h1
    · rw [setV_other _ _ hh, World.cell?_setCell_other _ _ _ _ (by simp <;> omega), hcell]; exact h.sl g' d' hg' hd'
  · exact h.due.keep (hwb m (Or.inr (Or.inl rfl)) (fun e => h.ne e.symm) (fun e => (h.off g d hg hd).2 e.symm))
  · intro g' d' hg' hd'
    by_cases hh : g' = g ∧ d' = d
    · obtain ⟨rfl, rfl⟩ := hh
      rw [setV_same, Wh.put_same]
      refine row_keep ho (fun j hj => heap_set_ne _ _ _ _ ?_)
      rintro rfl
      rcases hl _ hj with h1 | h1
      · exact (h.off g' d' hg hd).1 h1
      · have := h.lt; omega
    · rw [setV_other _ _ hh, Wh.put_other _ _ hh]
      refine row_keep (h.row g' d' hg' hd') (fun j hj => hwb j (Or.inr (Or.inr ⟨g', d', hg', hd', hj⟩)) ?_ ?_)
      · rintro rfl; exact (h.off g' d' hg' hd').1 hj
      · intro e; exact hh (h.apart g' d' g d j hg' hd' hg hd hj e.symm)
  · intro g1 d1 g2 d2 j h1 h2 h3 h4 h5 h6
    by_cases c1 : g1 = g ∧ d1 = d
    · by_cases c2 : g2 = g ∧ d2 = d
      · exact ⟨by rw [c1.1, c2.1], by rw [c1.2, c2.2]⟩
      · rw [setV_other _ _ c2] at h6
        obtain ⟨rfl, rfl⟩ := c1
        rw [setV_same] at h5
        rcases hl j h5 with h7 | h7
        · exact h.apart _ _ _ _ j h1 h2 h3 h4 h7 h6
        · have := ((h.row g2 d2 h3 h4).lt j h6).2; omega
    · rw [setV_other _ _ c1] at h5
      by_cases c2 : g2 = g ∧ d2 = d
      · obtain ⟨rfl, rfl⟩ := c2
        rw [setV_same] at h6
        rcases hl j h6 with h7 | h7
        · exact h.apart _ _ _ _ j h1 h2 h3 h4 h5 h7
        · have := ((h.row g1 d1 h1 h2).lt j h5).2; omega
      · rw [setV_other _ _ c2] at h6
        exact h.apart _ _ _ _ j h1 h2 h3 h4 h5 h6
  · intro g' d' hg' hd'
    by_cases hh : g' = g ∧ d' = d
    · obtain ⟨rfl, rfl⟩ := hh
      rw [setV_same]
      constructor
      · intro e
        rcases hl _ e with h1 | h1
        · exact (h.off g' d' hg hd).1 h1
        · have := h.lt; omega
      · intro e
        rcases hl _ e with h1 | h1
        · exact (h.off g' d' hg hd).2 h1
        · have := h.due.lt; omega
    · rw [setV_other _ _ hh]; exact h.off g' d' hg' hd'
  · intro j hj hn
    rw [heap_set_ne _ _ _ _ (fun e => hn (Or.inl e))]
    exact k.block j hj (fun e => hn (Or.inr (Or.inr ⟨g, d, hg, hd, e.symm⟩)))
  · rintro j (rfl | rfl | ⟨g', d', hg', hd', hj⟩)
    · exact Or.inl (Or.inl rfl)
    · exact Or.inl (Or.inr (Or.inl rfl))
    · by_cases hh : g' = g ∧ d' = d
      · obtain ⟨rfl, rfl⟩ := hh
        rw [setV_same] at hj
        rcases hl j hj with h1 | h1
        · exact Or.inl (Or.inr (Or.inr ⟨g', d', hg, hd, h1⟩))
        · exact Or.inr h1
      · rw [setV_other _ _ hh] at hj
        exact Or.inl (Or.inr (Or.inr ⟨g', d', hg', hd', hj⟩))
end Go.Proofs.YtmgiiofjlgchfaaDoor
