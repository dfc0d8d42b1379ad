
/- Rows of files and of numbers in memory; what is found, in memory. -/
import Derived.Test.YtoeibjflaiiljaaDoorSgM
import Derived.Test.YtoeibjflaiiljaaDoorStrs
import Derived.Test.YtoeibjflaiiljaaDoorRowG
namespace Go.Proofs.YtoeibjflaiiljaaDoor
open Go.RowKit
open Dk (Fl zf)

theorem Gr.dn {a b : World} (h : Gr a b) (n : Nat) : Gr a (b.drewN n) := by
  induction n with
  | zero => exact h
  | succ n ih => exact ih.drew
def flf (f : Fl) : List Value := [.int .i64 f.n, .string f.d, .int .i64 f.y]
theorem flf_len (x : Fl) : (flf x).length = 3 := rfl
theorem fl_at {w : World} {L : List Fl} {ad : Option Addr} (h : RowAt flf w ad L) (k : Nat) (hk : k < L.length) : ∃ x off, ad = some ⟨x, off, none⟩ ∧ x < w.heap.size ∧ w.cell? ⟨x, off + k * 3, none⟩ = some (.int .i64 L[k].n) ∧ w.cell? ⟨x, off + k * 3 + 1, none⟩ = some (.string L[k].d) ∧ w.cell? ⟨x, off + k * 3 + 2, none⟩ = some (.int .i64 L[k].y) := by
  obtain ⟨x, off, e, h1, h2⟩ := h _ _ (flat_get flf_len L k hk 0 (by omega))
  obtain ⟨x', off', e', _, h3⟩ := h _ _ (flat_get flf_len L k hk 1 (by omega))
  obtain ⟨x'', off'', e'', _, h4⟩ := h _ _ (flat_get flf_len L k hk 2 (by omega))
  subst e
  cases e'
  cases e''
  exact ⟨_, _, rfl, h1, h2, by rw [← Nat.add_assoc] at h3; exact h3, by rw [← Nat.add_assoc] at h4; exact h4⟩
theorem row_keep {w w' : World} {base : Nat} {e : TypeId} {size n : Nat} {v : Value} {xs : List Value} (h : w.ownsRow base e size v n xs) (hk : ∀ j, v.ownBlock = some j → w'.heap[j]? = w.heap[j]?) : w'.ownsRow base e size v n xs := by
  obtain ⟨h1, ⟨rfl, h2⟩ | ⟨g, cap, cur, rfl, h3, h4, h5⟩⟩ := h
  · exact ⟨h1, Or.inl ⟨rfl, h2⟩⟩
  · exact ⟨h1, Or.inr ⟨g, cap, cur, rfl, h3, (hk g rfl).trans h4, h5⟩⟩
theorem row_gr {w w' : World} {base : Nat} {e : TypeId} {size n : Nat} {v : Value} {xs : List Value} (h : w.ownsRow base e size v n xs) (g : Gr w w') : w'.ownsRow base e size v n xs :=
  row_keep h (fun j hj => g.below.block j (h.lt j hj).2)
theorem own_slice {w : World} {base : Nat} {e : TypeId} {size n : Nat} {v : Value} {xs : List Value} (h : w.ownsRow base e size v n xs) : ∃ ad cap, v = .slice ad n cap := by
  obtain ⟨h1, ⟨rfl, h2⟩ | ⟨g, cap, cur, rfl, _⟩⟩ := h
  · exact ⟨none, 0, by rw [h2]⟩
  · exact ⟨_, _, rfl⟩
theorem flat_take {α : Type} {f : α → List Value} {c : Nat} (hc : ∀ x, (f x).length = c) (L : List α) (i : Nat) (hi : i ≤ L.length) : (L.take i).flatMap f = (L.flatMap f).take (i * c) := by
  have h := congrArg (List.flatMap f) (List.take_append_drop i L)
  rw [List.flatMap_append] at h
  rw [← h, List.take_left' (by rw [flat_len hc, List.length_take, Nat.min_eq_left hi])]
theorem flat_drop {α : Type} {f : α → List Value} {c : Nat} (hc : ∀ x, (f x).length = c) (L : List α) (i : Nat) (hi : i ≤ L.length) : (L.drop i).flatMap f = (L.flatMap f).drop (i * c) := by
  have h := congrArg (List.flatMap f) (List.take_append_drop i L)
  rw [List.flatMap_append] at h
  rw [← h, List.drop_left' (by rw [flat_len hc, List.length_take, Nat.min_eq_left hi])]
theorem row_take {α : Type} {f : α → List Value} {c : Nat} (hc : ∀ x, (f x).length = c) {w : World} {ad : Option Addr} {L : List α} (h : RowAt f w ad L) (p : Nat) (hp : p ≤ L.length) : RowAt f w ad (L.take p) := by
  intro j u hu
  rw [flat_take hc L p hp, List.getElem?_take] at hu
  split at hu
  · exact h j u hu
  · cases hu
theorem row_drop {α : Type} {f : α → List Value} {c : Nat} (hc : ∀ x, (f x).length = c) {w : World} {a : Addr} {L : List α} (h : RowAt f w (some a) L) (p : Nat) (hp : p ≤ L.length) : RowAt f w (some (a.add (p * c))) (L.drop p) := by
  intro j u hu
  rw [flat_drop hc L p hp, List.getElem?_drop] at hu
  obtain ⟨b, off, e, hb, h1⟩ := h _ u hu
  cases e
  exact ⟨b, off + p * c, by rw [Addr.add_lit], hb, by rw [Nat.add_assoc]; exact h1⟩
def highAd (ad : Option Addr) (cap c : Nat) : Option Addr := if cap = c then ad else ad.map (·.add (c * 3))
theorem slice_low (ad : Option Addr) (n cap c : Nat) (hc : c ≤ n) (hn : n ≤ cap) (W : World) :
    (Instr.sliceAt 33 (.slice ad n cap) none (some (.int .i64 c)) none).run Tryd.prog W = .ok (.slice ad c cap) W := by
  have h1 : (c : Int) ≤ cap := by omega
  go_simp
theorem slice_high (ad : Option Addr) (n cap c : Nat) (hc : c ≤ n) (W : World) :
    (Instr.sliceAt 33 (.slice ad n cap) (some (.int .i64 c)) none none).run Tryd.prog W = .ok (.slice (highAd ad cap c) (n - c) (cap - c)) W := by
  have h1 : (c : Int) ≤ n := by omega
  go_simp
  unfold highAd
  rfl
theorem row_high {w : World} {ad : Option Addr} {l : List Fl} (h : RowAt flf w ad l) (cap c : Nat) (hl : l.length ≤ cap) : RowAt flf w (highAd ad cap c) (l.drop c) := by
  by_cases hc : c < l.length
  · obtain ⟨b, off, rfl, _⟩ := fl_at h 0 (by omega)
    unfold highAd
    rw [if_neg (by omega), Option.map_some]
    exact row_drop flf_len h c (by omega)
  · rw [List.drop_eq_nil_of_le (by omega)]; exact RowAt.nil

/- numbers that a call owns -/
theorem own_nums {base : Nat} {v : Value} {l : List Int} {w : World} (h : w.ownsRow base 3 1 v l.length (intV l)) : ∃ ad cap, v = .slice ad l.length cap ∧ (∀ p, ad = some p → base ≤ p.block) ∧ IntsAt w ad l := by
  have hcell := fun g (hg : v.ownBlock = some g) => h.cells hg
  have hlt := h.lt
  obtain ⟨_, ⟨rfl, h0⟩ | ⟨g, cap, cur, rfl, hx⟩⟩ := h
  · have : l = [] := List.length_eq_zero_iff.1 h0
    subst this
    exact ⟨none, 0, rfl, by simp, fun j hj => absurd hj (by simp)⟩
  · refine ⟨some ⟨g, 0, none⟩, cap, rfl, fun p hp => (by cases hp; exact (hlt g rfl).1), ?_⟩
    intro j hj
    refine ⟨g, 0, rfl, (hlt g rfl).2, ?_⟩
    have := hcell g rfl j (.int .i64 l[j]) (by simp [intV, hj])
    rw [Addr.add_lit] at this
    simpa using this
theorem infoN : (Tryd.prog.info? 3).map (fun i => (i.zero, i.size, i.bytes)) = some (some (.int .i64 0), 1, 8) := by kernel_rfl
theorem own_one (w : World) (base : Nat) (x : Value) (t : TypeId) (g : Nat) (hg : g = w.heap.size) (hb : base ≤ w.heap.size) : (w.alloc (.cells #[x] t)).ownsRow base t 1 (.slice (some ⟨g, 0, none⟩) 1 1) 1 [x] := by
  subst hg; exact World.ownsRow_lit w #[x] 1 hb (by unfold maxLen; omega) rfl

/- files as they come in: few, and not too long -/
structure FsAt (w : World) (ad : Option Addr) (cap : Nat) (L : List Fl) : Prop where
  row : RowAt flf w ad L
  len : L.length ≤ 3000
  cap : L.length ≤ cap
  rng : ∀ f ∈ L, -9223372036854775808 ≤ f.n ∧ f.n ≤ 9223372036854775807 ∧ f.d.size ≤ 300000
theorem FsAt.gr {w w' : World} {ad : Option Addr} {cap : Nat} {L : List Fl} (h : FsAt w ad cap L) (g : Gr w w') : FsAt w' ad cap L := ⟨h.row.gr g, h.len, h.cap, h.rng⟩

/- a struct of four cells in memory that may be written -/
structure Bx4 (w : World) (g : Nat) (a b c d : Value) : Prop where
  c0 : w.cell? ⟨g, 0, none⟩ = some a
  c1 : w.cell? ⟨g, 1, none⟩ = some b
  c2 : w.cell? ⟨g, 2, none⟩ = some c
  c3 : w.cell? ⟨g, 3, none⟩ = some d
  f0 : w.frozen? ⟨g, 0, none⟩ = false
  f1 : w.frozen? ⟨g, 1, none⟩ = false
  f2 : w.frozen? ⟨g, 2, none⟩ = false
  f3 : w.frozen? ⟨g, 3, none⟩ = false
  lt : g < w.heap.size
theorem Bx4.gr {w w' : World} {g : Nat} {a b c d : Value} (h : Bx4 w g a b c d) (k : Gr w w') : Bx4 w' g a b c d :=
  ⟨k.keep h.c0, k.keep h.c1, k.keep h.c2, k.keep h.c3, k.keepF h.lt h.f0, k.keepF h.lt h.f1, k.keepF h.lt h.f2, k.keepF h.lt h.f3, Nat.lt_of_lt_of_le h.lt k.size⟩
theorem Bx4.new (w : World) (a b c d : Value) (t : TypeId) (g : Nat) (hg : g = w.heap.size) : Bx4 (w.alloc (.cells #[a, b, c, d] t)) g a b c d := by
  subst hg
  exact ⟨by simp, by simp, by simp, by simp, by simp [go_sem], by simp [go_sem], by simp [go_sem], by simp [go_sem], by simp⟩
theorem Bx4.fill {w : World} {g : Nat} {a b c d : Value} (h : Bx4 w g a b c d) (x y z u : Value) :
    Bx4 ((((w.setCell ⟨g, 0, none⟩ x).setCell ⟨g, 1, none⟩ y).setCell ⟨g, 2, none⟩ z).setCell ⟨g, 3, none⟩ u) g x y z u := by
  obtain ⟨h0, h1, h2, h3, f0, f1, f2, f3, hl⟩ := h
  exact ⟨by simp [go_sem, *], by simp [go_sem, *], by simp [go_sem, *], by simp [go_sem, *], by simp [go_sem, *], by simp [go_sem, *], by simp [go_sem, *], by simp [go_sem, *], by simpa using hl⟩
theorem Bx4.s0 {w : World} {g : Nat} {a b c d : Value} (h : Bx4 w g a b c d) (x : Value) : Bx4 (w.setCell ⟨g, 0, none⟩ x) g x b c d := by
  obtain ⟨h0, h1, h2, h3, f0, f1, f2, f3, hl⟩ := h
  exact ⟨by simp [go_sem, *], by simp [go_sem, *], by simp [go_sem, *], by simp [go_sem, *], by simp [go_sem, *], by simp [go_sem, *], by simp [go_sem, *], by simp [go_sem, *], by simpa using hl⟩
theorem Bx4.s1 {w : World} {g : Nat} {a b c d : Value} (h : Bx4 w g a b c d) (x : Value) : Bx4 (w.setCell ⟨g, 1, none⟩ x) g a x c d := by
  obtain ⟨h0, h1, h2, h3, f0, f1, f2, f3, hl⟩ := h
  exact ⟨by simp [go_sem, *], by simp [go_sem, *], by simp [go_sem, *], by simp [go_sem, *], by simp [go_sem, *], by simp [go_sem, *], by simp [go_sem, *], by simp [go_sem, *], by simpa using hl⟩
theorem Bx4.s2 {w : World} {g : Nat} {a b c d : Value} (h : Bx4 w g a b c d) (x : Value) : Bx4 (w.setCell ⟨g, 2, none⟩ x) g a b x d := by
  obtain ⟨h0, h1, h2, h3, f0, f1, f2, f3, hl⟩ := h
  exact ⟨by simp [go_sem, *], by simp [go_sem, *], by simp [go_sem, *], by simp [go_sem, *], by simp [go_sem, *], by simp [go_sem, *], by simp [go_sem, *], by simp [go_sem, *], by simpa using hl⟩
theorem Bx4.s3 {w : World} {g : Nat} {a b c d : Value} (h : Bx4 w g a b c d) (x : Value) : Bx4 (w.setCell ⟨g, 3, none⟩ x) g a b c x := by
  obtain ⟨h0, h1, h2, h3, f0, f1, f2, f3, hl⟩ := h
  exact ⟨by simp [go_sem, *], by simp [go_sem, *], by simp [go_sem, *], by simp [go_sem, *], by simp [go_sem, *], by simp [go_sem, *], by simp [go_sem, *], by simp [go_sem, *], by simpa using hl⟩
theorem Bx4.far {w : World} {g : Nat} {a b c d : Value} (h : Bx4 w g a b c d) (p : Addr) (u : Value) (hp : p.block ≠ g) : Bx4 (w.setCell p u) g a b c d := by
  obtain ⟨h0, h1, h2, h3, f0, f1, f2, f3, hl⟩ := h
  refine ⟨?_, ?_, ?_, ?_, ?_, ?_, ?_, ?_, by simpa using hl⟩
  · rw [World.cell?_setCell_far _ _ _ _ (by simpa using hp)]; exact h0
  · rw [World.cell?_setCell_far _ _ _ _ (by simpa using hp)]; exact h1
  · rw [World.cell?_setCell_far _ _ _ _ (by simpa using hp)]; exact h2
  · rw [World.cell?_setCell_far _ _ _ _ (by simpa using hp)]; exact h3
  · rw [World.frozen?_setCell]; exact f0
  · rw [World.frozen?_setCell]; exact f1
  · rw [World.frozen?_setCell]; exact f2
  · rw [World.frozen?_setCell]; exact f3
theorem Bx4.grown {w w' : World} {g : Nat} {a b c d : Value} (h : Bx4 w g a b c d) {r : Option Nat} (k : w.grownBy w' r) (hne : some g ≠ r) : Bx4 w' g a b c d := by
  have e := k.block g h.lt hne
  have hc : ∀ o, w'.cell? ⟨g, o, none⟩ = w.cell? ⟨g, o, none⟩ := fun o => World.cell?_of_block (w := w) e
  have hf : ∀ o, w'.frozen? ⟨g, o, none⟩ = w.frozen? ⟨g, o, none⟩ := fun o => World.frozen?_of_block (w := w) e
  exact ⟨(hc _).trans h.c0, (hc _).trans h.c1, (hc _).trans h.c2, (hc _).trans h.c3, (hf _).trans h.f0, (hf _).trans h.f1, (hf _).trans h.f2, (hf _).trans h.f3, Nat.lt_of_lt_of_le h.lt k.size⟩

theorem strs_keep {w w' : World} {ad : Option Addr} {l : List ByteArray} (h : StrsAt w ad l) (hs : w.heap.size ≤ w'.heap.size) (hk : ∀ p s, w.cell? p = some (.string s) → w'.cell? p = some (.string s)) : StrsAt w' ad l := by
  intro j hj
  obtain ⟨b, off, e, hb, hc⟩ := h j hj
  exact ⟨b, off, e, Nat.lt_of_lt_of_le hb hs, hk _ _ hc⟩
/- no string is turned where no string stood -/
theorem str_set {w : World} {p : Addr} {v u : Value} (h : w.cell? p = some v) (hv : ∀ s, v ≠ .string s) (q : Addr) (s : ByteArray) (hq : w.cell? q = some (.string s)) : (w.setCell p u).cell? q = some (.string s) := by
  by_cases e : q = p
  · subst e
    rw [h] at hq
    cases hq
    exact absurd rfl (hv s)
  · rw [World.cell?_setCell_other _ _ _ _ (fun h => e h.symm)]
    exact hq
theorem strs_set {w : World} {ad : Option Addr} {l : List ByteArray} (h : StrsAt w ad l) {p : Addr} {v : Value} (u : Value) (hp : w.cell? p = some v) (hv : ∀ s, v ≠ .string s) : StrsAt (w.setCell p u) ad l :=
  strs_keep h (by simp [World.setCell]) (fun q s hq => str_set hp hv q s hq)
theorem ints_far {w : World} {ad : Option Addr} {l : List Int} (h : IntsAt w ad l) (p : Addr) (v : Value) (hp : ∀ a, ad = some a → p.block ≠ a.block) : IntsAt (w.setCell p v) ad l := by
  intro j hj
  obtain ⟨b, off, e, hb, hc⟩ := h j hj
  exact ⟨b, off, e, by simpa using hb, by rw [World.cell?_setCell_far _ _ _ _ (by simpa using hp _ e)]; exact hc⟩
/- what was found is laid into a struct -/
theorem fill_all {w : World} {g : Nat} {a b : Int} {c0 d0 : Option Addr} {c1 c2 d1 d2 : Nat} (h : Bx4 w g (.int .i64 a) (.int .i64 b) (.slice c0 c1 c2) (.slice d0 d1 d2)) {ab ad : Option Addr} {B : List ByteArray} {D : List Int} (hb : StrsAt w ab B) (hd : IntsAt w ad D) (hf : ∀ p, ad = some p → g ≠ p.block) (x y : Int) (z0 : Option Addr) (z1 z2 : Nat) (u : Value) :
    StrsAt ((((w.setCell ⟨g, 0, none⟩ (.int .i64 x)).setCell ⟨g, 1, none⟩ (.int .i64 y)).setCell ⟨g, 2, none⟩ (.slice z0 z1 z2)).setCell ⟨g, 3, none⟩ u) ab B ∧
    IntsAt ((((w.setCell ⟨g, 0, none⟩ (.int .i64 x)).setCell ⟨g, 1, none⟩ (.int .i64 y)).setCell ⟨g, 2, none⟩ (.slice z0 z1 z2)).setCell ⟨g, 3, none⟩ u) ad D := by
  have h1 := h.s0 (.int .i64 x)
  have h2 := h1.s1 (.int .i64 y)
  have h3 := h2.s2 (.slice z0 z1 z2)
  refine ⟨strs_set (strs_set (strs_set (strs_set hb _ h.c0 (by simp)) _ h1.c1 (by simp)) _ h2.c2 (by simp)) _ h3.c3 (by simp), ?_⟩
  exact ints_far (ints_far (ints_far (ints_far hd _ _ hf) _ _ hf) _ _ hf) _ _ hf
theorem gr_fill {w W : World} {g : Nat} (h : Gr w W) (hg : w.heap.size ≤ g) (x y z u : Value) : Gr w ((((W.setCell ⟨g, 0, none⟩ x).setCell ⟨g, 1, none⟩ y).setCell ⟨g, 2, none⟩ z).setCell ⟨g, 3, none⟩ u) :=
  (((h.set _ hg x).set _ hg y).set _ hg z).set _ hg u
/- what is found, as an answer -/
structure LkI (x : Sg.An) (w w' : World) (ab : Option Addr) (cb : Nat) (ad : Option Addr) (cd : Nat) : Prop where
  bo : StrsAt w' ab (x.bodies.map mkT)
  dr : IntsAt w' ad x.drop
  gr : Gr w w'
def LkR (x : Sg.An) (w : World) (e : Ending) (w' : World) : Prop :=
  ∃ ab cb ad cd, e = .returned (.tuple #[.agg #[.int .i64 x.num, .int .i64 (x.good : Int), .slice ab x.bodies.length cb, .slice ad x.drop.length cd], .int .i64 x.err]) ∧ LkI x w w' ab cb ad cd
end Go.Proofs.YtoeibjflaiiljaaDoor
