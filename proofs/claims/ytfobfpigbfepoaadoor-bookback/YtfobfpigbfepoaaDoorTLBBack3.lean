/- What the proof is made of, part 3. -/
import Derived.Test.YtfobfpigbfepoaaDoorTLBBack2
import Derived.Test.YtfobfpigbfepoaaDoorProg
import Derived.WalkKit
import Derived.WalkSpells
import Derived.WalkLawsBesides
import Derived.Laws.IdiomStrings
import Derived.Lib.UnsafeStr
import Derived.KernelRfl
import Derived.Deep.RegionWith
import Derived.Deep.DrawnRows
import Derived.Laws.OwnMore
import Derived.Maps.AppendAt
import Derived.Deep.RegionHeld3
namespace Go.Proofs.YtfobfpigbfepoaaDoor
open Lex (Tok ckE scT scF scA)
open Df (Stp St tk Gd prs pE pA pT pN pL)
theorem scT_size (l : List UInt8) (hl : l.length ≤ 9223372036854775807) : ∀ x ∈ scT l, x.t.size ≤ 9223372036854775807 := by
  intro x hx
  unfold Lex.scT at hx
  split at hx
  · cases hx
  · split at hx
    · have := (Lex.tok_rng _ _ _ x hx).2; omega
    · cases hx
theorem ck_scan {l : List UInt8} (h0 : scF l = 0) : ckE (scT l) ≠ 80 := by
  unfold Lex.scF at h0
  unfold Lex.scT
  split at h0
  · cases h0
  · rename_i hn
    split at h0
    · rename_i hs
      rw [if_neg hn, hs]
      exact Lex.okays_S l hs
    · cases h0
theorem pE_in {T : List Tok} (h80 : ckE T ≠ 80) {i : Nat} (h0 : pE T i = 0) : i < T.length := by
  unfold Df.pE at h0
  rw [if_neg h80] at h0
  split at h0
  · rename_i h; omega
  · cases h0
theorem prs_more {T : List Tok} (hT : Gd T) (i : Nat) {x : ByteArray × List Stp} (h : (prs T i).2 = some x) : i < (prs T i).1 := by
  unfold Df.prs at h ⊢
  by_cases h1 : Df.isT (tk T i) 1 Df.wSaga = true
  · rw [if_pos h1] at h ⊢
    by_cases h2 : (tk T (i + 1)).k = 1
    · rw [if_pos h2] at h ⊢
      by_cases h3 : Df.isT (tk T (i + 2)) 3 Df.gOpen = true
      · rw [if_pos h3] at h ⊢
        have key : ∀ f j L, (Df.stps T f j L).2 ≠ none → j < T.length → j ≤ (Df.stps T f j L).1 := by
          intro f
          induction f with
          | zero => intro j L h; exact absurd rfl h
          | succ f ih =>
            intro j L h hj
            unfold Df.stps at h ⊢
            by_cases h4 : Df.isT (tk T j) 3 Df.gShut = true
            · rw [if_pos h4]; exact Nat.le_succ _
            · rw [if_neg h4] at h ⊢
              have ho := Df.one_le hT j hj
              revert h ho
              rcases Df.one T j with ⟨j', _ | s⟩
              · intro h _; exact absurd rfl h
              · intro h ho
                have := ih j' (L ++ [s]) h ho.2.1
                have := ho.1
                simp only at *
                omega
        have h3b : i + 3 < T.length := by
          have k1 : i + 1 < T.length := by
            rcases Nat.lt_or_ge (i + 1) T.length with h | h
            · exact h
            · rw [Df.tk_out T (i + 1) h] at h2; cases h2
          have k2 := hT.next (i := i + 1) (by rw [h2]; decide)
          exact hT.next (i := i + 2) (by
            have := (Df.isT_iff _ _ _).1 h3
            rw [this.1]; decide)
        have := key (T.length + 1) (i + 3) []
        revert h this
        rcases Df.stps T (T.length + 1) (i + 3) [] with ⟨j, _ | L⟩
        · intro h _; cases h
        · intro _ hk
          have := hk (by simp) h3b
          simp only at *
          omega
      · rw [if_neg h3] at h; cases h
    · rw [if_neg h2] at h; cases h
  · rw [if_neg h1] at h; cases h
theorem pT_in {T : List Tok} (h80 : ckE T ≠ 80) {i : Nat} (h0 : pE T i = 0) : i < (pT T i).toNat ∧ (pT T i).toNat < T.length ∧ pT T i = ((pT T i).toNat : Int) := by
  have hi := pE_in h80 h0
  have hG := Df.gd_of h80
  unfold Df.pT
  rw [if_pos h0, Int.toNat_natCast, Int.toNat_natCast]
  refine ⟨?_, (Df.def_same hG i hi).2.2, rfl⟩
  unfold Df.pE at h0
  rw [if_neg h80, if_pos (by omega), Int.toNat_natCast] at h0
  cases ho : (prs T i).2 with
  | none => rw [ho] at h0; cases h0
  | some x => exact prs_more hG i ho
theorem pE_ok {T : List Tok} (h80 : ckE T ≠ 80) {i : Nat} (h0 : pE T i = 0) : Bk.okB ⟨pN T i, pL T i⟩ = true := by
  have hi := pE_in h80 h0
  unfold Bk.okB
  unfold Df.pN Df.pL
  rw [if_pos h0, if_pos h0]
  unfold Df.pE at h0
  rw [if_neg h80, if_pos (by omega)] at h0
  cases ho : (prs T (i : Int).toNat).2 with
  | none => rw [ho] at h0; cases h0
  | some x =>
    obtain ⟨nm, L⟩ := x
    rw [ho] at h0
    simp only at h0 ⊢
    cases hd : Df.defB nm L with
    | true => rfl
    | false => rw [Df.ch_no hd] at h0; cases h0
namespace Bk
theorem add_snoc : ∀ (M D : List Dn) (d : Dn), addE D M = 0 → addE D (M ++ [d]) = putE (addD D M) d ∧ (putE (addD D M) d = 0 → addD D (M ++ [d]) = ins (addD D M) d)
  | [], D, d, _ => by
    simp only [List.nil_append, addE, addD]
    constructor
    · by_cases hp : putE D d = 0
      · rw [if_pos hp, hp]
      · rw [if_neg hp]
    · intro hp; rw [if_pos hp]
  | y :: M, D, d, h => by
    simp only [List.cons_append, addE, addD] at h ⊢
    by_cases hp : putE D y = 0
    · rw [if_pos hp] at h ⊢
      rw [if_pos hp, if_pos hp]
      exact add_snoc M (ins D y) d h
    · rw [if_neg hp] at h; exact absurd h hp
def dnA (T : List Tok) (i : Nat) : Dn := ⟨pN T i, pL T i⟩
def rd (T : List Tok) : Nat → Nat → List Dn → Int × Int × List Dn
  | 0, _, D => (0, 0, D)
  | f + 1, i, D =>
    if (tk T i).k = 0 then (0, 0, D)
    else if pE T i ≠ 0 then (pE T i, pA T i, [])
    else if putE D (dnA T i) ≠ 0 then (putE D (dnA T i), (tk T i).p, [])
    else rd T f (pT T i).toNat (ins D (dnA T i))
def RD (T : List Tok) (i : Nat) (D : List Dn) : Int × Int × List Dn := rd T (T.length - i) i D
theorem rd_fuel {T : List Tok} (h80 : ckE T ≠ 80) : ∀ (f g i : Nat) (D : List Dn), T.length - i ≤ f → T.length - i ≤ g → i < T.length → rd T f i D = rd T g i D := by
  intro f
  induction f with
  | zero => intro g i D h _ hi; omega
  | succ f ih =>
    intro g i D hf hg hi
    cases g with
    | zero => omega
    | succ g =>
      unfold rd
      by_cases h1 : (tk T i).k = 0
      · rw [if_pos h1, if_pos h1]
      · rw [if_neg h1, if_neg h1]
        by_cases h2 : pE T i ≠ 0
        · rw [if_pos h2, if_pos h2]
        · rw [if_neg h2, if_neg h2]
          by_cases h3 : putE D (dnA T i) ≠ 0
          · rw [if_pos h3, if_pos h3]
          · rw [if_neg h3, if_neg h3]
            obtain ⟨a, b, _⟩ := pT_in h80 (i := i) (by simpa using h2)
            exact ih g _ _ (by omega) (by omega) b
theorem RD_end {T : List Tok} {i : Nat} (hi : i < T.length) (D : List Dn) (h : (tk T i).k = 0) : RD T i D = (0, 0, D) := by
  unfold RD
  obtain ⟨f, hf⟩ : ∃ f, T.length - i = f + 1 := ⟨T.length - i - 1, by omega⟩
  rw [hf]; unfold rd; rw [if_pos h]
theorem RD_bad {T : List Tok} {i : Nat} (hi : i < T.length) (D : List Dn) (h : (tk T i).k ≠ 0) (h2 : pE T i ≠ 0) : RD T i D = (pE T i, pA T i, []) := by
  unfold RD
  obtain ⟨f, hf⟩ : ∃ f, T.length - i = f + 1 := ⟨T.length - i - 1, by omega⟩
  rw [hf]; unfold rd; rw [if_neg h, if_pos h2]
theorem RD_no {T : List Tok} {i : Nat} (hi : i < T.length) (D : List Dn) (h : (tk T i).k ≠ 0) (h2 : pE T i = 0) (h3 : putE D (dnA T i) ≠ 0) : RD T i D = (putE D (dnA T i), (tk T i).p, []) := by
  unfold RD
  obtain ⟨f, hf⟩ : ∃ f, T.length - i = f + 1 := ⟨T.length - i - 1, by omega⟩
  rw [hf]; unfold rd; rw [if_neg h, if_neg (by simpa using h2), if_pos h3]
theorem RD_go {T : List Tok} (h80 : ckE T ≠ 80) {i : Nat} (D : List Dn) (h : (tk T i).k ≠ 0) (h2 : pE T i = 0) (h3 : putE D (dnA T i) = 0) : RD T i D = RD T (pT T i).toNat (ins D (dnA T i)) := by
  have hi := pE_in h80 h2
  obtain ⟨a, b, _⟩ := pT_in h80 h2
  unfold RD
  obtain ⟨f, hf⟩ : ∃ f, T.length - i = f + 1 := ⟨T.length - i - 1, by omega⟩
  rw [hf]
  conv => lhs; unfold rd
  rw [if_neg h, if_neg (by simpa using h2), if_neg (by simpa using h3)]
  exact rd_fuel h80 _ _ _ _ (by omega) (by omega) b
def goes (T : List Tok) : Nat → List (Int × Dn) → Nat → Prop
  | i, [], j => i = j
  | i, x :: t, j => (tk T i).k ≠ 0 ∧ pE T i = 0 ∧ x = ((tk T i).p, dnA T i) ∧ goes T (pT T i).toNat t j
theorem goes_snoc {T : List Tok} : ∀ (t : List (Int × Dn)) (i j : Nat), goes T i t j → (tk T j).k ≠ 0 → pE T j = 0 → goes T i (t ++ [((tk T j).p, dnA T j)]) (pT T j).toNat
  | [], i, j, h, h1, h2 => by
    have e : i = j := h
    subst e
    exact ⟨h1, h2, rfl, rfl⟩
  | x :: t, i, j, h, h1, h2 => ⟨h.1, h.2.1, h.2.2.1, goes_snoc t _ j h.2.2.2 h1 h2⟩
theorem goes_lt {T : List Tok} (h80 : ckE T ≠ 80) : ∀ (t : List (Int × Dn)) (i j : Nat), i < T.length → goes T i t j → j < T.length ∧ i + t.length ≤ j
  | [], i, j, hi, h => by
    have e : i = j := h
    subst e; exact ⟨hi, by simp⟩
  | x :: t, i, j, hi, h => by
    obtain ⟨a, b, _⟩ := pT_in h80 h.2.1
    obtain ⟨c, d⟩ := goes_lt h80 t _ j b h.2.2.2
    refine ⟨c, ?_⟩
    rw [List.length_cons]; omega
theorem goes_RD {T : List Tok} (h80 : ckE T ≠ 80) : ∀ (t : List (Int × Dn)) (i j : Nat) (D : List Dn), goes T i t j → addE D (t.map (·.2)) = 0 → RD T i D = RD T j (addD D (t.map (·.2)))
  | [], i, j, D, h, _ => by
    have e : i = j := h
    subst e; rfl
  | x :: t, i, j, D, h, ha => by
    obtain ⟨h1, h2, rfl, h4⟩ := h
    simp only [List.map_cons, addE, addD] at ha ⊢
    by_cases hp : putE D (dnA T i) = 0
    · rw [if_pos hp] at ha ⊢
      rw [RD_go h80 D h1 h2 hp]
      exact goes_RD h80 t _ j _ h4 ha
    · rw [if_neg hp] at ha; exact absurd ha hp
theorem goes_cut {T : List Tok} : ∀ (t : List (Int × Dn)) (x : Int × Dn) (i j : Nat), goes T i (t ++ [x]) j → ∃ k, goes T i t k ∧ (tk T k).k ≠ 0 ∧ pE T k = 0 ∧ x = ((tk T k).p, dnA T k)
  | [], x, i, j, h => ⟨i, rfl, h.1, h.2.1, h.2.2.1⟩
  | y :: t, x, i, j, h => by
    obtain ⟨k, h1, h2⟩ := goes_cut t x _ j h.2.2.2
    exact ⟨k, ⟨h.1, h.2.1, h.2.2.1, h1⟩, h2⟩
theorem RD_may {T : List Tok} (h80 : ckE T ≠ 80) : ∀ (f i : Nat) (D : List Dn), mayB D = true → mayB (rd T f i D).2.2 = true
  | 0, _, D, h => h
  | f + 1, i, D, h => by
    unfold rd
    split
    · exact h
    · split
      · exact may_nil
      · split
        · exact may_nil
        · rename_i h1 h2 h3
          exact RD_may h80 f _ _ (ins_may h (by simpa using h3))
def rE (l : List UInt8) : Int := if scF l ≠ 0 then scF l else (RD (scT l) 0 []).1
def rA (l : List UInt8) : Int := if scF l ≠ 0 then scA l else (RD (scT l) 0 []).2.1
def rD (l : List UInt8) : List Dn := if scF l ≠ 0 then [] else (RD (scT l) 0 []).2.2
theorem rD_may (l : List UInt8) : mayB (rD l) = true := by
  unfold rD
  split
  · exact may_nil
  · rename_i h
    exact RD_may (ck_scan (by simpa using h)) _ _ _ may_nil
theorem rd_none {T : List Tok} : ∀ (f i : Nat) (D : List Dn), (rd T f i D).1 ≠ 0 → (rd T f i D).2.2 = []
  | 0, _, D, h => absurd rfl h
  | f + 1, i, D, h => by
    unfold rd at h ⊢
    by_cases h1 : (tk T i).k = 0
    · rw [if_pos h1] at h; exact absurd rfl h
    · rw [if_neg h1] at h ⊢
      by_cases h2 : pE T i ≠ 0
      · rw [if_pos h2]
      · rw [if_neg h2] at h ⊢
        by_cases h3 : putE D (dnA T i) ≠ 0
        · rw [if_pos h3]
        · rw [if_neg h3] at h ⊢
          exact rd_none f _ _ h
theorem rD_none {l : List UInt8} (h : rE l ≠ 0) : rD l = [] := by
  unfold rE at h
  unfold rD
  by_cases hs : scF l ≠ 0
  · rw [if_pos hs]
  · rw [if_neg hs] at h ⊢
    exact rd_none _ _ _ h
end Bk
end Go.Proofs.YtfobfpigbfepoaaDoor
namespace Pk
def numF : Nat → Nat → List UInt8
  | 0, n => [UInt8.ofNat n]
  | f + 1, n => if n < 128 then [UInt8.ofNat n] else UInt8.ofNat (n % 128 + 128) :: numF f (n / 128)
def num (n : Nat) : List UInt8 := numF 9 n
def takeF : Nat → Nat → Nat → List UInt8 → Nat × Nat × Nat
  | 0, _, _, _ => (0, 0, 11)
  | _ + 1, _, _, [] => (0, 0, 10)
  | f + 1, i, a, b :: r =>
    if 128 ≤ b.toNat then takeF f (i + 1) (a + b.toNat % 128 * 128 ^ i) r
    else if (i = 9 ∧ 1 < b.toNat) ∨ (i ≠ 0 ∧ b.toNat = 0) then (0, 0, 11)
    else (a + b.toNat * 128 ^ i, i + 1, 0)
def take (l : List UInt8) : Nat × Nat × Nat := takeF 10 0 0 l
def text (s : List UInt8) : List UInt8 := num s.length ++ s
def body (l : List ByteArray) : List UInt8 := l.flatMap fun s => text s.data.toList
end Pk
namespace Go.Proofs.YtfobfpigbfepoaaDoor
open Go.RowKit
structure Gr (w w' : World) : Prop where
  below : Below w.heap.size w w'
theorem Gr.refl (w : World) : Gr w w := ⟨Below.refl _ _⟩
theorem Gr.trans {a b c : World} (h : Gr a b) (k : Gr b c) : Gr a c := ⟨h.below.trans (k.below.mono h.below.size)⟩
theorem Gr.alloc {a b : World} (h : Gr a b) {o : Obj} : Gr a (b.alloc o) := ⟨h.below.alloc h.below.size _⟩
theorem Gr.drew {a b : World} (h : Gr a b) : Gr a b.drew := ⟨h.below.drew⟩
theorem Gr.size {a b : World} (h : Gr a b) : a.heap.size ≤ b.heap.size := h.below.size
theorem Gr.cells {W w1 : World} (h : Gr W w1) : (∀ b o, b < W.heap.size → w1.cell? ⟨b, o, none⟩ = W.cell? ⟨b, o, none⟩) ∧ (∀ b o, b < W.heap.size → w1.frozen? ⟨b, o, none⟩ = W.frozen? ⟨b, o, none⟩) :=
  ⟨fun b o hb => h.below.cell (p := ⟨b, o, none⟩) hb, fun b o hb => h.below.frozen (p := ⟨b, o, none⟩) hb⟩
theorem add_lists (x y : List UInt8) (h : x.length + y.length ≤ 9223372036854775807) (w : World) : (Op.stringOp .add ⟨x.toArray⟩ ⟨y.toArray⟩).run Tryd.prog w = .ok (.string ⟨(x ++ y).toArray⟩) w := by
  rw [run_string_add_sum w _ _ (by simpa [ByteArray.size] using h), ByteArray.mk_append_mk]
end Go.Proofs.YtfobfpigbfepoaaDoor
namespace Go.Proofs.YtfobfpigbfepoaaDoor
open Go.RowKit
theorem Gr.grownBy {w w' : World} (h : Gr w w') : w.grownBy w' none := ⟨h.below.os, h.below.tape, h.below.output, h.below.size, fun k hk _ => h.below.block k hk⟩
theorem Gr.keep {W w1 : World} (g : Gr W w1) {p : Addr} {v : Value} (h : W.cell? p = some v) : w1.cell? p = some v :=
  (g.below.cell (World.block_lt_of_cell? W p h)).trans h
def IntsAt (w : World) (ad : Option Addr) (l : List Int) : Prop :=
  ∀ j (h : j < l.length), ∃ b off, ad = some ⟨b, off, none⟩ ∧ b < w.heap.size ∧ w.cell? ⟨b, off + j, none⟩ = some (.int .i64 l[j])
theorem IntsAt.gr {w w' : World} {ad : Option Addr} {l : List Int} (h : IntsAt w ad l) (g : Gr w w') : IntsAt w' ad l := by
  intro j hj
  obtain ⟨b, off, e, hb, hc⟩ := h j hj
  exact ⟨b, off, e, Nat.lt_of_lt_of_le hb g.size, g.keep hc⟩
theorem IntsAt.take {w : World} {ad : Option Addr} {l : List Int} (h : IntsAt w ad l) (k : Nat) : IntsAt w ad (l.take k) := by
  intro j hj
  have hj' : j < l.length := by rw [List.length_take] at hj; omega
  obtain ⟨b, off, e, hb, hc⟩ := h j hj'
  exact ⟨b, off, e, hb, by rw [List.getElem_take]; exact hc⟩
theorem IntsAt.drop {w : World} {b off : Nat} {l : List Int} (h : IntsAt w (some ⟨b, off, none⟩) l) (k : Nat) : IntsAt w (some ⟨b, off + k, none⟩) (l.drop k) := by
  intro j hj
  rw [List.length_drop] at hj
  obtain ⟨b', off', e, hb, hc⟩ := h (k + j) (by omega)
  cases e
  exact ⟨b, off + k, rfl, hb, by rw [List.getElem_drop, Nat.add_assoc]; exact hc⟩
theorem IntsAt.nil {w : World} {ad : Option Addr} : IntsAt w ad [] := fun j h => absurd h (by simp)
theorem own_or (v : Value) : v.ownBlock = none ∨ v.ownBlock ≠ none := by
  cases v.ownBlock with
  | none => exact Or.inl rfl
  | some q => exact Or.inr (by simp)
end Go.Proofs.YtfobfpigbfepoaaDoor
namespace Go.Proofs.YtfobfpigbfepoaaDoor
open Go.RowKit
theorem Gr.set {a b : World} (h : Gr a b) (p : Addr) (hp : a.heap.size ≤ p.block) (v : Value) : Gr a (b.setCell p v) := ⟨h.below.setCell hp v⟩
theorem Gr.keepF {W w1 : World} (g : Gr W w1) {p : Addr} (hb : p.block < W.heap.size) (h : W.frozen? p = false) : w1.frozen? p = false := (g.below.frozen hb).trans h
structure BoxAt (w : World) (g : Nat) (a b c : Value) : Prop where
  c0 : w.cell? ⟨g, 0, none⟩ = some a
  c1 : w.cell? ⟨g, 1, none⟩ = some b
  c2 : w.cell? ⟨g, 2, none⟩ = some c
  f0 : w.frozen? ⟨g, 0, none⟩ = false
  f1 : w.frozen? ⟨g, 1, none⟩ = false
  f2 : w.frozen? ⟨g, 2, none⟩ = false
  lt : g < w.heap.size
theorem BoxAt.gr {w w' : World} {g : Nat} {a b c : Value} (h : BoxAt w g a b c) (k : Gr w w') : BoxAt w' g a b c :=
  ⟨k.keep h.c0, k.keep h.c1, k.keep h.c2, k.keepF h.lt h.f0, k.keepF h.lt h.f1, k.keepF h.lt h.f2, Nat.lt_of_lt_of_le h.lt k.size⟩
theorem BoxAt.new (w : World) (a b c : Value) (t : TypeId) (g : Nat) (hg : g = w.heap.size) : BoxAt (w.alloc (.cells #[a, b, c] t)) g a b c := by
  subst hg
  exact ⟨by simp, by simp, by simp, by simp [go_sem], by simp [go_sem], by simp [go_sem], by simp⟩
def RoomAt (w : World) (g : Nat) : Prop := ∃ a b c, BoxAt w g a b c
theorem RoomAt.gr {w w' : World} {g : Nat} (h : RoomAt w g) (k : Gr w w') : RoomAt w' g := by
  obtain ⟨a, b, c, h⟩ := h
  exact ⟨a, b, c, h.gr k⟩
theorem RoomAt.drew {w : World} {g : Nat} (h : RoomAt w g) : RoomAt w.drew g := h.gr (Gr.refl _).drew
theorem RoomAt.new (w : World) (a b c : Value) (t : TypeId) (g : Nat) (hg : g = w.heap.size) : RoomAt (w.alloc (.cells #[a, b, c] t)) g := ⟨a, b, c, BoxAt.new w a b c t g hg⟩
end Go.Proofs.YtfobfpigbfepoaaDoor
namespace Go.Proofs.YtfobfpigbfepoaaDoor
open Go.RowKit
theorem step_append_own {P : Program} {w : World} {ops : Array Oper} {o : Oper} {a : Act} {K : Act → World → Prop} {Q : Exit → Act → World → Prop} {E : Prop} (hgd : o.guard = none) (s x : Operand) (t : TypeId)
    (ho : o.op = .call { callee := .builtin .append, args := #[s, x], argTypes := #[t, t] })
    (base : Nat) (e : TypeId) (i : TypeInfo) (z : Value) (size bytes : Nat) (ht : P.underlying t = some (.slice e)) (hi : P.info? e = some i) (hz : i.zero = some z)
    (hsize : i.size = size) (hby : i.bytes = bytes) (hzs : z.cells.size = size) (hsz : 0 < size)
    (v : Value) (n : Nat) (xs : List Value) (hs : a.eval s = v) (hown : w.ownsRow base e size v n xs)
    (ad : Addr) (m c : Nat) (news : List Value) (hx : a.eval x = .slice (some ad) m c) (hl : news.length = m * size) (hnews : ∀ j u, news[j]? = some u → w.cell? (ad.add j) = some u) (h1 : ∀ u ∈ news, u.oneCell' = true)
    (h63 : n + m ≤ maxLen) (hbytes : (n + m) * bytes ≤ 140737488355328) (hbase : base ≤ w.heap.size)
    (h : ∀ v' w', w'.ownsRow base e size v' (n + m) (xs ++ news) → w.grownBy w' v.ownBlock → (v' = .slice none 0 0 ↔ v = .slice none 0 0 ∧ m = 0) → K (a.put o.dst v') w') :
    if Region.wanted o (yielded ops a.tmps) = true then Oper.wp P o a w K Q else E := by
  have hw : Region.wanted o (yielded ops a.tmps) = true := by simp [Region.wanted, hgd]
  rw [if_pos hw]
  exact wp_append_own w s x t ho base e i z size bytes ht hi hz hsize hby hzs hsz v n xs hs hown ad m c news hx hl hnews h1 h63 hbytes hbase h
theorem own_low {w : World} {base base' : Nat} {e : TypeId} {size n : Nat} {v : Value} {xs : List Value} (h : w.ownsRow base e size v n xs) (hb : base' ≤ base) : w.ownsRow base' e size v n xs := by
  obtain ⟨h1, ⟨rfl, h2⟩ | ⟨g, cap, cur, rfl, h3, h4⟩⟩ := h
  · exact ⟨h1, Or.inl ⟨rfl, h2⟩⟩
  · exact ⟨h1, Or.inr ⟨g, cap, cur, rfl, Nat.le_trans hb h3, h4⟩⟩
theorem Gr.grown {a b c : World} (h : Gr a b) {r : Option Nat} (k : b.grownBy c r) (hr : ∀ g, r = some g → a.heap.size ≤ g) : Gr a c := ⟨h.below.grown k h.below.size hr⟩
end Go.Proofs.YtfobfpigbfepoaaDoor
namespace Go.Proofs.YtfobfpigbfepoaaDoor
open Go.RowKit
def RowAt {α : Type} (f : α → List Value) (w : World) (ad : Option Addr) (L : List α) : Prop :=
  ∀ j u, (L.flatMap f)[j]? = some u → ∃ b off, ad = some ⟨b, off, none⟩ ∧ b < w.heap.size ∧ w.cell? ⟨b, off + j, none⟩ = some u
theorem flat_len {α : Type} {f : α → List Value} {c : Nat} (hc : ∀ x, (f x).length = c) (L : List α) : (L.flatMap f).length = L.length * c := by
  induction L with
  | nil => simp
  | cons x t ih => rw [List.flatMap_cons, List.length_append, ih, hc, List.length_cons, Nat.add_mul]; omega
theorem flat_get {α : Type} {f : α → List Value} {c : Nat} (hc : ∀ x, (f x).length = c) (L : List α) : ∀ j (h : j < L.length) i, i < c → (L.flatMap f)[j * c + i]? = (f L[j])[i]? := by
  induction L with
  | nil => intro j h; simp at h
  | cons x t ih =>
    intro j h i hi
    rw [List.flatMap_cons]
    cases j with
    | zero => rw [Nat.zero_mul, Nat.zero_add, List.getElem?_append_left (by rw [hc]; exact hi)]; rfl
    | succ j =>
      rw [Nat.add_mul, Nat.one_mul, List.getElem?_append_right (by rw [hc]; omega), hc, show j * c + c + i - c = j * c + i by omega, ih j (by simpa using h) i hi]; rfl
theorem RowAt.gr {α : Type} {f : α → List Value} {w w' : World} {ad : Option Addr} {L : List α} (h : RowAt f w ad L) (g : Gr w w') : RowAt f w' ad L := by
  intro j u hu
  obtain ⟨b, off, e, hb, h1⟩ := h j u hu
  exact ⟨b, off, e, Nat.lt_of_lt_of_le hb g.size, g.keep h1⟩
theorem RowAt.alloc {α : Type} {f : α → List Value} {w : World} {ad : Option Addr} {L : List α} (h : RowAt f w ad L) {o : Obj} : RowAt f (w.alloc o) ad L := h.gr (Gr.refl _).alloc
theorem RowAt.drew {α : Type} {f : α → List Value} {w : World} {ad : Option Addr} {L : List α} (h : RowAt f w ad L) : RowAt f w.drew ad L := h.gr (Gr.refl _).drew
theorem RowAt.nil {α : Type} {f : α → List Value} {w : World} {ad : Option Addr} : RowAt f w ad [] := fun j u h => by simp at h
theorem RowAt.setFar {α : Type} {f : α → List Value} {w : World} {ad : Option Addr} {L : List α} (h : RowAt f w ad L) (p : Addr) (v : Value) (hp : ∀ a, ad = some a → p.block ≠ a.block) : RowAt f (w.setCell p v) ad L := by
  intro j u hu
  obtain ⟨b, off, e, hb, h1⟩ := h j u hu
  exact ⟨b, off, e, by simpa using hb, by rw [World.cell?_setCell_far _ _ _ _ (by simpa using hp _ e)]; exact h1⟩
theorem RowAt.news {α : Type} {f : α → List Value} {w : World} {a : Addr} {L : List α} (h : RowAt f w (some a) L) : ∀ j u, (L.flatMap f)[j]? = some u → w.cell? (a.add j) = some u := by
  intro j u hu
  obtain ⟨b, off, e, _, h1⟩ := h j u hu
  cases e
  rw [Addr.add_lit]; exact h1
theorem RowAt.none {α : Type} {f : α → List Value} {c : Nat} (hc : ∀ x, (f x).length = c) (h0 : 0 < c) {w : World} {L : List α} (h : RowAt f w none L) : L = [] := by
  cases L with
  | nil => rfl
  | cons x t =>
    have hl := flat_len hc (x :: t)
    have : 0 < ((x :: t).flatMap f).length := by rw [hl, List.length_cons]; exact Nat.mul_pos (by omega) h0
    obtain ⟨b, off, e, _⟩ := h 0 _ (List.getElem?_eq_getElem this)
    cases e
theorem own_row {α : Type} {f : α → List Value} {c : Nat} {base : Nat} {t : TypeId} {v : Value} {L : List α} {w : World} (h : w.ownsRow base t c v L.length (L.flatMap f)) :
    ∃ ad cap, v = .slice ad L.length cap ∧ L.length ≤ cap ∧ cap ≤ 9223372036854775807 ∧ RowAt f w ad L ∧ (∀ a, ad = some a → base ≤ a.block) ∧ (ad = none → cap = 0) := by
  have hcell := fun g (hg : v.ownBlock = some g) => h.cells hg
  have hlt := h.lt
  obtain ⟨_, ⟨rfl, h0⟩ | ⟨g, cap, cur, rfl, hx⟩⟩ := h
  · have : L = [] := List.length_eq_zero_iff.1 h0
    subst this
    exact ⟨none, 0, rfl, by simp, by omega, RowAt.nil, (fun a e => by cases e), fun _ => rfl⟩
  · have hm : cap ≤ 9223372036854775807 := by have := hx.2.2.2.1; unfold maxLen at this; omega
    refine ⟨some ⟨g, 0, none⟩, cap, rfl, hx.2.2.1, hm, ?_, (fun a e => by cases e; exact (hlt g rfl).1), fun e => by cases e⟩
    intro j u hu
    have c1 := hcell g rfl _ _ hu
    rw [Addr.add_lit] at c1
    exact ⟨g, 0, rfl, (hlt g rfl).2, c1⟩
end Go.Proofs.YtfobfpigbfepoaaDoor
namespace Go.Proofs.YtfobfpigbfepoaaDoor
open Go.RowKit
open Lex (Tok)
def tokC (x : Tok) : List Value := [.int .i64 x.k, .string x.t, .int .i64 x.p]
def tokV (L : List Tok) : List Value := L.flatMap tokC
theorem tokV_app (L M : List Tok) : tokV (L ++ M) = tokV L ++ tokV M := by simp [tokV]
theorem tokV_get (L : List Tok) : ∀ j (h : j < L.length), (tokV L)[j * 3]? = some (.int .i64 L[j].k) ∧ (tokV L)[j * 3 + 1]? = some (.string L[j].t) ∧ (tokV L)[j * 3 + 2]? = some (.int .i64 L[j].p) := by
  induction L with
  | nil => intro j h; simp at h
  | cons x t ih =>
    intro j h
    have e : tokV (x :: t) = .int .i64 x.k :: .string x.t :: .int .i64 x.p :: tokV t := rfl
    rw [e]
    cases j with
    | zero => exact ⟨rfl, rfl, rfl⟩
    | succ j =>
      obtain ⟨h1, h2, h3⟩ := ih j (by simpa using h)
      rw [show (j + 1) * 3 = j * 3 + 1 + 1 + 1 by omega]
      refine ⟨by simpa using h1, ?_, ?_⟩
      · rw [show j * 3 + 1 + 1 + 1 + 1 = (j * 3 + 1) + 1 + 1 + 1 by omega]; simpa using h2
      · rw [show j * 3 + 1 + 1 + 1 + 2 = (j * 3 + 2) + 1 + 1 + 1 by omega]; simpa using h3
theorem tokV_one (L : List Tok) : ∀ u ∈ tokV L, u.oneCell' = true := by
  intro u hu
  simp only [tokV, List.mem_flatMap] at hu
  obtain ⟨h, _, hu⟩ := hu
  simp [tokC] at hu
  rcases hu with rfl | rfl | rfl <;> rfl
def ToksAt (w : World) (ad : Option Addr) (L : List Tok) : Prop :=
  ∀ j (h : j < L.length), ∃ b off, ad = some ⟨b, off, none⟩ ∧ b < w.heap.size ∧ w.cell? ⟨b, off + j * 3, none⟩ = some (.int .i64 L[j].k) ∧ w.cell? ⟨b, off + j * 3 + 1, none⟩ = some (.string L[j].t) ∧ w.cell? ⟨b, off + j * 3 + 2, none⟩ = some (.int .i64 L[j].p)
theorem ToksAt.gr {w w' : World} {ad : Option Addr} {L : List Tok} (h : ToksAt w ad L) (g : Gr w w') : ToksAt w' ad L := by
  intro j hj
  obtain ⟨b, off, e, hb, h1, h2, h3⟩ := h j hj
  exact ⟨b, off, e, Nat.lt_of_lt_of_le hb g.size, g.keep h1, g.keep h2, g.keep h3⟩
theorem ToksAt.nil {w : World} {ad : Option Addr} : ToksAt w ad [] := fun j h => absurd h (by simp)
theorem ToksAt.take {w : World} {ad : Option Addr} {L : List Tok} (h : ToksAt w ad L) (k : Nat) : ToksAt w ad (L.take k) := by
  intro j hj
  have hj' : j < L.length := by rw [List.length_take] at hj; omega
  obtain ⟨b, off, e, hb, h1, h2, h3⟩ := h j hj'
  refine ⟨b, off, e, hb, ?_, ?_, ?_⟩ <;> rw [List.getElem_take] <;> assumption
theorem ToksAt.setFar {w : World} {ad : Option Addr} {L : List Tok} (h : ToksAt w ad L) (p : Addr) (v : Value) (hp : ∀ a, ad = some a → p.block ≠ a.block) : ToksAt (w.setCell p v) ad L := by
  intro j hj
  obtain ⟨b, off, e, hb, h1, h2, h3⟩ := h j hj
  have hne : p.block ≠ b := hp _ e
  refine ⟨b, off, e, by simpa using hb, ?_, ?_, ?_⟩ <;> rw [World.cell?_setCell_far _ _ _ _ (by simpa using hne)] <;> assumption
theorem own_toks {base : Nat} {v : Value} {L : List Tok} {w : World} (h : w.ownsRow base 81 3 v L.length (tokV L)) : ∃ ad cap, v = .slice ad L.length cap ∧ L.length ≤ cap ∧ ToksAt w ad L ∧ ∀ a, ad = some a → base ≤ a.block := by
  have hcell := fun g (hg : v.ownBlock = some g) => h.cells hg
  have hlt := h.lt
  obtain ⟨_, ⟨rfl, h0⟩ | ⟨g, cap, cur, rfl, hx⟩⟩ := h
  · have : L = [] := List.length_eq_zero_iff.1 h0
    subst this
    exact ⟨none, 0, rfl, by simp, ToksAt.nil, fun a e => by cases e⟩
  · refine ⟨some ⟨g, 0, none⟩, cap, rfl, hx.2.2.1, ?_, fun a e => by cases e; exact (hlt g rfl).1⟩
    intro j hj
    obtain ⟨g1, g2, g3⟩ := tokV_get L j hj
    have c1 := hcell g rfl _ _ g1
    have c2 := hcell g rfl _ _ g2
    have c3 := hcell g rfl _ _ g3
    rw [Addr.add_lit] at c1 c2 c3
    rw [← Nat.add_assoc] at c2 c3
    exact ⟨g, 0, rfl, (hlt g rfl).2, c1, c2, c3⟩
theorem toks_lit1 (w : World) (x : Tok) (t : TypeId) : ∀ j u, (tokV [x])[j]? = some u → (w.alloc (.cells #[.int .i64 x.k, .string x.t, .int .i64 x.p] t)).cell? ((⟨w.heap.size, 0, none⟩ : Addr).add j) = some u := by
  intro j u hu
  have hj : j < 3 := by
    have := (List.getElem?_eq_some_iff.1 hu).1
    simpa [tokV, tokC] using this
  rw [Addr.add_lit]
  match j, hj with
  | 0, _ => simp [tokV, tokC] at hu; subst hu; simp
  | 1, _ => simp [tokV, tokC] at hu; subst hu; simp
  | 2, _ => simp [tokV, tokC] at hu; subst hu; simp
theorem infoTok : (Tryd.prog.info? 81).map (fun i => (i.zero, i.size, i.bytes)) = some (some (.agg #[.int .i64 0, .string ⟨#[]⟩, .int .i64 0]), 3, 32) := by kernel_rfl
theorem info_parts3 {t : TypeId} {z : Value} {n b : Nat} (h : (Tryd.prog.info? t).map (fun i => (i.zero, i.size, i.bytes)) = some (some z, n, b)) : ∃ i, Tryd.prog.info? t = some i ∧ i.zero = some z ∧ i.size = n ∧ i.bytes = b := by
  cases hi : Tryd.prog.info? t with
  | none => rw [hi] at h; cases h
  | some i => rw [hi] at h; simp at h; exact ⟨i, rfl, h.1, h.2.1, h.2.2⟩
structure PlAt (w : World) (b : Nat) (s : ByteArray) (k : Nat) : Prop where
  c0 : w.cell? ⟨b, 0, none⟩ = some (.string s)
  c1 : w.cell? ⟨b, 1, none⟩ = some (.int .i64 (k : Int))
  f1 : w.frozen? ⟨b, 1, none⟩ = false
  lt : b < w.heap.size
theorem PlAt.gr {w w' : World} {b : Nat} {s : ByteArray} {k : Nat} (h : PlAt w b s k) (g : Gr w w') : PlAt w' b s k :=
  ⟨g.keep h.c0, g.keep h.c1, g.keepF h.lt h.f1, Nat.lt_of_lt_of_le h.lt g.size⟩
theorem PlAt.set {w : World} {b : Nat} {s : ByteArray} {k : Nat} (h : PlAt w b s k) (m : Nat) : PlAt (w.setCell ⟨b, 1, none⟩ (.int .i64 (m : Int))) b s m := by
  obtain ⟨h0, h1, h2, hl⟩ := h
  exact ⟨by simp [go_sem, *], by simp [go_sem, *], by simp [go_sem, *], by simpa using hl⟩
structure PO (b : Nat) (w w' : World) : Prop where
  grown : w.grownBy w' (some b)
  cell : ∀ o, o ≠ 1 → b < w.heap.size → w'.cell? ⟨b, o, none⟩ = w.cell? ⟨b, o, none⟩
  froz : ∀ o, b < w.heap.size → w'.frozen? ⟨b, o, none⟩ = w.frozen? ⟨b, o, none⟩
theorem PO.ofGr {b : Nat} {w w' : World} (g : Gr w w') : PO b w w' :=
  ⟨⟨g.below.os, g.below.tape, g.below.output, g.size, fun k hk _ => g.below.block k hk⟩, fun o _ hb => g.below.cell (p := ⟨b, o, none⟩) hb, fun o hb => g.below.frozen (p := ⟨b, o, none⟩) hb⟩
theorem PO.size {b : Nat} {w w' : World} (h : PO b w w') : w.heap.size ≤ w'.heap.size := h.grown.size
theorem PO.trans {b : Nat} {u v w : World} (h : PO b u v) (k : PO b v w) : PO b u w := by
  have hs := h.size
  refine ⟨⟨?_, ?_, ?_, Nat.le_trans h.size k.size, ?_⟩, fun o ho hb => (k.cell o ho (by omega)).trans (h.cell o ho hb), fun o hb => (k.froz o (by omega)).trans (h.froz o hb)⟩
  · exact k.grown.os.trans h.grown.os
  · exact k.grown.tape.trans h.grown.tape
  · exact k.grown.output.trans h.grown.output
  · intro i hi hne
    exact (k.grown.block i (by omega) hne).trans (h.grown.block i hi hne)
theorem PO.set {b : Nat} (w : World) (v : Value) : PO b w (w.setCell ⟨b, 1, none⟩ v) :=
  ⟨⟨rfl, rfl, rfl, by simp [World.setCell], fun k _ hk => Below.heap_setCell _ _ _ _ (fun e => hk (by rw [e]))⟩, fun o ho _ => by rw [World.cell?_setCell_other]; intro e; exact ho (by cases e; rfl), fun o _ => by rw [World.frozen?_setCell]⟩
theorem Gr.po {b : Nat} {a w w' : World} (g : Gr a w) (h : PO b w w') (hb : a.heap.size ≤ b) : Gr a w' := ⟨g.below.grown h.grown g.size (fun k e => by cases e; exact hb)⟩
theorem PO.keep {b : Nat} {w w' : World} (h : PO b w w') {g o : Nat} {v : Value} (hg : g < w.heap.size) (hne : g ≠ b) (hc : w.cell? ⟨g, o, none⟩ = some v) : w'.cell? ⟨g, o, none⟩ = some v := by
  rw [← hc]; exact World.cell?_of_block (w := w) (h.grown.block g hg (by simp; omega))
theorem PO.keepF {b : Nat} {w w' : World} (h : PO b w w') {g o : Nat} {v : Bool} (hg : g < w.heap.size) (hne : g ≠ b) (hc : w.frozen? ⟨g, o, none⟩ = v) : w'.frozen? ⟨g, o, none⟩ = v := by
  rw [← hc]; exact World.frozen?_of_block (w := w) (h.grown.block g hg (by simp; omega))
end Go.Proofs.YtfobfpigbfepoaaDoor
