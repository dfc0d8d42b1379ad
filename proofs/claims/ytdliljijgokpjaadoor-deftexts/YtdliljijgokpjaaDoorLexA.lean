/- Tokens in memory; where a text has been read to. -/
import Derived.Test.YtdliljijgokpjaaDoorBoxA
import Derived.Test.YtdliljijgokpjaaDoorAppS
import Derived.Test.YtdliljijgokpjaaDoorLexM
namespace Go.Proofs.YtdliljijgokpjaaDoor
open Go.RowKit
open Lex (Tok)

def tokC (x : Tok) : List Value := [.int .i64 x.k, .string x.t, .int .i64 x.p]
def tokV (L : List Tok) : List Value := L.flatMap tokC
theorem tokV_len (L : List Tok) : (tokV L).length = L.length * 3 := by
  induction L with
  | nil => rfl
  | cons h t ih => simp [tokV, tokC] at ih ⊢; omega
theorem tokV_app (L M : List Tok) : tokV (L ++ M) = tokV L ++ tokV M := by simp [tokV]
theorem tokV_get (L : List Tok) : ∀ j (h : j < L.length), (tokV L)[j * 3]? = some (.int .i64 L[j].k) ∧ (tokV L)[j * 3 + 1]? = some (.string L[j].t) ∧ (tokV L)[j * 3 + 2]? = some (.int .i64 L[j].p) := by
  induction L with
  | nil => intro j h; simp at h
  | cons x t ih =>
    intro j h
    have e : tokV (x :: t) = .int .i64 x.k :: .string x.t :: .int .i64 x.p :: tokV t := rfl
    rw [e]
    cases j with
    | zero => exact ⟨rfl, rfl, rfl⟩
    | succ j =>
      obtain ⟨h1, h2, h3⟩ := ih j (by simpa using h)
      rw [show (j + 1) * 3 = j * 3 + 1 + 1 + 1 by omega]
      refine ⟨by simpa using h1, ?_, ?_⟩
      · rw [show j * 3 + 1 + 1 + 1 + 1 = (j * 3 + 1) + 1 + 1 + 1 by omega]; simpa using h2
      · rw [show j * 3 + 1 + 1 + 1 + 2 = (j * 3 + 2) + 1 + 1 + 1 by omega]; simpa using h3
theorem tokV_one (L : List Tok) : ∀ u ∈ tokV L, u.oneCell' = true := by
  intro u hu
  simp only [tokV, List.mem_flatMap] at hu
  obtain ⟨h, _, hu⟩ := hu
  simp [tokC] at hu
  rcases hu with rfl | rfl | rfl <;> rfl

/- a row of tokens in memory, its address whatever where there is none -/
def ToksAt (w : World) (ad : Option Addr) (L : List Tok) : Prop :=
  ∀ j (h : j < L.length), ∃ b off, ad = some ⟨b, off, none⟩ ∧ b < w.heap.size ∧ w.cell? ⟨b, off + j * 3, none⟩ = some (.int .i64 L[j].k) ∧ w.cell? ⟨b, off + j * 3 + 1, none⟩ = some (.string L[j].t) ∧ w.cell? ⟨b, off + j * 3 + 2, none⟩ = some (.int .i64 L[j].p)
theorem ToksAt.gr {w w' : World} {ad : Option Addr} {L : List Tok} (h : ToksAt w ad L) (g : Gr w w') : ToksAt w' ad L := by
  intro j hj
  obtain ⟨b, off, e, hb, h1, h2, h3⟩ := h j hj
  exact ⟨b, off, e, Nat.lt_of_lt_of_le hb g.size, g.keep h1, g.keep h2, g.keep h3⟩
theorem ToksAt.nil {w : World} {ad : Option Addr} : ToksAt w ad [] := fun j h => absurd h (by simp)
theorem ToksAt.take {w : World} {ad : Option Addr} {L : List Tok} (h : ToksAt w ad L) (k : Nat) : ToksAt w ad (L.take k) := by
  intro j hj
  have hj' : j < L.length := by rw [List.length_take] at hj; omega
  obtain ⟨b, off, e, hb, h1, h2, h3⟩ := h j hj'
  refine ⟨b, off, e, hb, ?_, ?_, ?_⟩ <;> rw [List.getElem_take] <;> assumption
theorem ToksAt.setFar {w : World} {ad : Option Addr} {L : List Tok} (h : ToksAt w ad L) (p : Addr) (v : Value) (hp : ∀ a, ad = some a → p.block ≠ a.block) : ToksAt (w.setCell p v) ad L := by
  intro j hj
  obtain ⟨b, off, e, hb, h1, h2, h3⟩ := h j hj
  have hne : p.block ≠ b := hp _ e
  refine ⟨b, off, e, by simpa using hb, ?_, ?_, ?_⟩ <;> rw [World.cell?_setCell_far _ _ _ _ (by simpa using hne)] <;> assumption
/- a row of tokens that the call owns -/
theorem own_toks {base : Nat} {v : Value} {L : List Tok} {w : World} (h : w.ownsRow base 66 3 v L.length (tokV L)) : ∃ ad cap, v = .slice ad L.length cap ∧ L.length ≤ cap ∧ ToksAt w ad L ∧ ∀ a, ad = some a → base ≤ a.block := by
  have hcell := fun g (hg : v.ownBlock = some g) => h.cells hg
  have hlt := h.lt
  obtain ⟨_, ⟨rfl, h0⟩ | ⟨g, cap, cur, rfl, hx⟩⟩ := h
  · have : L = [] := List.length_eq_zero_iff.1 h0
    subst this
    exact ⟨none, 0, rfl, by simp, ToksAt.nil, fun a e => by cases e⟩
  · refine ⟨some ⟨g, 0, none⟩, cap, rfl, hx.2.2.1, ?_, fun a e => by cases e; exact (hlt g rfl).1⟩
    intro j hj
    obtain ⟨g1, g2, g3⟩ := tokV_get L j hj
    have c1 := hcell g rfl _ _ g1
    have c2 := hcell g rfl _ _ g2
    have c3 := hcell g rfl _ _ g3
    rw [Addr.add_lit] at c1 c2 c3
    rw [← Nat.add_assoc] at c2 c3
    exact ⟨g, 0, rfl, (hlt g rfl).2, c1, c2, c3⟩
theorem toks_lit1 (w : World) (x : Tok) (t : TypeId) : ∀ j u, (tokV [x])[j]? = some u → (w.alloc (.cells #[.int .i64 x.k, .string x.t, .int .i64 x.p] t)).cell? ((⟨w.heap.size, 0, none⟩ : Addr).add j) = some u := by
  intro j u hu
  have hj : j < 3 := by
    have := (List.getElem?_eq_some_iff.1 hu).1
    simpa [tokV, tokC] using this
  rw [Addr.add_lit]
  match j, hj with
  | 0, _ => simp [tokV, tokC] at hu; subst hu; simp
  | 1, _ => simp [tokV, tokC] at hu; subst hu; simp
  | 2, _ => simp [tokV, tokC] at hu; subst hu; simp
theorem infoTok : (Tryd.prog.info? 66).map (fun i => (i.zero, i.size, i.bytes)) = some (some (.agg #[.int .i64 0, .string ⟨#[]⟩, .int .i64 0]), 3, 32) := by kernel_rfl
theorem info_parts3 {t : TypeId} {z : Value} {n b : Nat} (h : (Tryd.prog.info? t).map (fun i => (i.zero, i.size, i.bytes)) = some (some z, n, b)) : ∃ i, Tryd.prog.info? t = some i ∧ i.zero = some z ∧ i.size = n ∧ i.bytes = b := by
  cases hi : Tryd.prog.info? t with
  | none => rw [hi] at h; cases h
  | some i => rw [hi] at h; simp at h; exact ⟨i, rfl, h.1, h.2.1, h.2.2⟩

/- a text's place: its text, how far it has been read -/
structure PlAt (w : World) (b : Nat) (s : ByteArray) (k : Nat) : Prop where
  c0 : w.cell? ⟨b, 0, none⟩ = some (.string s)
  c1 : w.cell? ⟨b, 1, none⟩ = some (.int .i64 (k : Int))
  f1 : w.frozen? ⟨b, 1, none⟩ = false
  lt : b < w.heap.size
theorem PlAt.gr {w w' : World} {b : Nat} {s : ByteArray} {k : Nat} (h : PlAt w b s k) (g : Gr w w') : PlAt w' b s k :=
  ⟨g.keep h.c0, g.keep h.c1, g.keepF h.lt h.f1, Nat.lt_of_lt_of_le h.lt g.size⟩
theorem PlAt.set {w : World} {b : Nat} {s : ByteArray} {k : Nat} (h : PlAt w b s k) (m : Nat) : PlAt (w.setCell ⟨b, 1, none⟩ (.int .i64 (m : Int))) b s m := by
  obtain ⟨h0, h1, h2, hl⟩ := h
  exact ⟨by simp [go_sem, *], by simp [go_sem, *], by simp [go_sem, *], by simpa using hl⟩
/- nothing has turned but that place's number -/
structure PO (b : Nat) (w w' : World) : Prop where
  grown : w.grownBy w' (some b)
  cell : ∀ o, o ≠ 1 → b < w.heap.size → w'.cell? ⟨b, o, none⟩ = w.cell? ⟨b, o, none⟩
  froz : ∀ o, b < w.heap.size → w'.frozen? ⟨b, o, none⟩ = w.frozen? ⟨b, o, none⟩
theorem PO.ofGr {b : Nat} {w w' : World} (g : Gr w w') : PO b w w' :=
  ⟨⟨g.below.os, g.below.tape, g.below.output, g.size, fun k hk _ => g.below.block k hk⟩, fun o _ hb => g.below.cell (p := ⟨b, o, none⟩) hb, fun o hb => g.below.frozen (p := ⟨b, o, none⟩) hb⟩
theorem PO.size {b : Nat} {w w' : World} (h : PO b w w') : w.heap.size ≤ w'.heap.size := h.grown.size
theorem PO.trans {b : Nat} {u v w : World} (h : PO b u v) (k : PO b v w) : PO b u w := by
  have hs := h.size
  refine ⟨⟨?_, ?_, ?_, Nat.le_trans h.size k.size, ?_⟩, fun o ho hb => (k.cell o ho (by omega)).trans (h.cell o ho hb), fun o hb => (k.froz o (by omega)).trans (h.froz o hb)⟩
  · exact k.grown.os.trans h.grown.os
  · exact k.grown.tape.trans h.grown.tape
  · exact k.grown.output.trans h.grown.output
  · intro i hi hne
    exact (k.grown.block i (by omega) hne).trans (h.grown.block i hi hne)
theorem PO.set {b : Nat} (w : World) (v : Value) : PO b w (w.setCell ⟨b, 1, none⟩ v) :=
  ⟨⟨rfl, rfl, rfl, by simp [World.setCell], fun k _ hk => Below.heap_setCell _ _ _ _ (fun e => hk (by rw [e]))⟩, fun o ho _ => by rw [World.cell?_setCell_other]; intro e; exact ho (by cases e; rfl), fun o _ => by rw [World.frozen?_setCell]⟩
theorem Gr.po {b : Nat} {a w w' : World} (g : Gr a w) (h : PO b w w') (hb : a.heap.size ≤ b) : Gr a w' := ⟨g.below.grown h.grown g.size (fun k e => by cases e; exact hb)⟩
theorem PO.keep {b : Nat} {w w' : World} (h : PO b w w') {g o : Nat} {v : Value} (hg : g < w.heap.size) (hne : g ≠ b) (hc : w.cell? ⟨g, o, none⟩ = some v) : w'.cell? ⟨g, o, none⟩ = some v := by
  rw [← hc]; exact World.cell?_of_block (w := w) (h.grown.block g hg (by simp; omega))
theorem PO.keepF {b : Nat} {w w' : World} (h : PO b w w') {g o : Nat} {v : Bool} (hg : g < w.heap.size) (hne : g ≠ b) (hc : w.frozen? ⟨g, o, none⟩ = v) : w'.frozen? ⟨g, o, none⟩ = v := by
  rw [← hc]; exact World.frozen?_of_block (w := w) (h.grown.block g hg (by simp; omega))
end Go.Proofs.YtdliljijgokpjaaDoor
