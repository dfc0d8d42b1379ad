
/- Items and notes in memory, rows of them; what they are as plain mathematics. -/
import Derived.Test.YtilkfgpcibdikaaRowG
import Derived.Test.YtilkfgpcibdikaaNtA
import Derived.Test.YtilkfgpcibdikaaNtM
import Derived.Test.YtilkfgpcibdikaaOxM
namespace Go.Proofs.Ytilkfgpcibdikaa
open Go.RowKit

/- a note as plain data that can be compared -/
abbrev Nx := (Int × Int × Int) × List (Int × Int) × ByteArray × Int
def pk (x : Nt) : Nx := ((x.k, x.r, x.n), x.L, x.d, x.y)
def okN (p : Nx) : Bool := Nt.ntB ⟨p.1.1, p.1.2.1, p.1.2.2, p.2.1, p.2.2.1, p.2.2.2⟩
theorem okN_pk (x : Nt) : okN (pk x) = Nt.ntB x := rfl
theorem pk_inj {x y : Nt} (h : pk x = pk y) : x = y := by
  obtain ⟨a, b, c, d, e, f⟩ := x
  obtain ⟨a2, b2, c2, d2, e2, f2⟩ := y
  simp only [pk, Prod.mk.injEq] at h
  obtain ⟨⟨rfl, rfl, rfl⟩, rfl, rfl, rfl⟩ := h
  rfl
theorem nt_small {x : Nt} (h : Nt.ntB x = true) : x.L.length ≤ 4 ∧ x.d.size ≤ 16 := by
  obtain ⟨_, h2, _, h4, _⟩ := Nt.may_note h
  rw [Idn.may_hops] at h2
  simp only [Bool.and_eq_true, decide_eq_true_eq] at h2
  exact ⟨h2.1.1.1.2, Nt.may_def h4⟩

/- a note in memory: what it is, where its hops lie -/
structure Mn where
  x : Nt
  ad : Option Addr
  cap : Nat
abbrev Mn.v (m : Mn) : Value := .agg #[.int .i64 m.x.k, .int .i64 m.x.r, .int .i64 m.x.n, .slice m.ad m.x.L.length m.cap, .string m.x.d, .int .i64 m.x.y]
def nC (m : Mn) : List Value := [.int .i64 m.x.k, .int .i64 m.x.r, .int .i64 m.x.n, .slice m.ad m.x.L.length m.cap, .string m.x.d, .int .i64 m.x.y]
theorem nC_len (m : Mn) : (nC m).length = 6 := rfl
structure MnAt (w : World) (m : Mn) : Prop where
  hp : HopsAt w m.ad m.x.L
  hl : m.x.L.length ≤ 9223372036854775807
  hc : m.x.L.length ≤ m.cap
  hd : m.x.d.size ≤ 9223372036854775807
theorem MnAt.gr {w w' : World} {m : Mn} (h : MnAt w m) (g : Gr w w') : MnAt w' m := ⟨h.hp.gr g, h.hl, h.hc, h.hd⟩
abbrev NtsRow := RowAt nC
structure NtsAt (w : World) (ad : Option Addr) (Q : List Mn) : Prop where
  row : NtsRow w ad Q
  nt : ∀ m ∈ Q, MnAt w m
theorem NtsAt.gr {w w' : World} {ad : Option Addr} {Q : List Mn} (h : NtsAt w ad Q) (g : Gr w w') : NtsAt w' ad Q := ⟨h.row.gr g, fun m hm => (h.nt m hm).gr g⟩
theorem NtsAt.nil {w : World} {ad : Option Addr} : NtsAt w ad [] := ⟨RowAt.nil, by simp⟩
theorem NtsRow.at {w : World} {ad : Option Addr} {D : List Mn} (h : NtsRow w ad D) (k : Nat) (hk : k < D.length) : ∃ b off, ad = some ⟨b, off, none⟩ ∧ b < w.heap.size ∧
    w.cell? ⟨b, off + k * 6, none⟩ = some (.int .i64 D[k].x.k) ∧ w.cell? ⟨b, off + k * 6 + 1, none⟩ = some (.int .i64 D[k].x.r) ∧ w.cell? ⟨b, off + k * 6 + 2, none⟩ = some (.int .i64 D[k].x.n) ∧
    w.cell? ⟨b, off + k * 6 + 3, none⟩ = some (.slice D[k].ad D[k].x.L.length D[k].cap) ∧ w.cell? ⟨b, off + k * 6 + 4, none⟩ = some (.string D[k].x.d) ∧ w.cell? ⟨b, off + k * 6 + 5, none⟩ = some (.int .i64 D[k].x.y) := by
  have g := fun i hi => flat_get nC_len D k hk i hi
  obtain ⟨b, off, rfl, hb, c0⟩ := h _ _ (g 0 (by omega))
  obtain ⟨_, _, e, _, c1⟩ := h _ _ (g 1 (by omega)); cases e
  obtain ⟨_, _, e, _, c2⟩ := h _ _ (g 2 (by omega)); cases e
  obtain ⟨_, _, e, _, c3⟩ := h _ _ (g 3 (by omega)); cases e
  obtain ⟨_, _, e, _, c4⟩ := h _ _ (g 4 (by omega)); cases e
  obtain ⟨_, _, e, _, c5⟩ := h _ _ (g 5 (by omega)); cases e
  rw [← Nat.add_assoc] at c1 c2 c3 c4 c5
  exact ⟨b, off, rfl, hb, c0, c1, c2, c3, c4, c5⟩

/- an item in memory -/
structure Mi where
  q : Int
  d : Int
  s : Int
  m : Mn
abbrev Mi.v (x : Mi) : Value := .agg #[.int .i64 x.q, .int .i64 x.d, .int .i64 x.s, .int .i64 x.m.x.k, .int .i64 x.m.x.r, .int .i64 x.m.x.n, .slice x.m.ad x.m.x.L.length x.m.cap, .string x.m.x.d, .int .i64 x.m.x.y]
def iC (x : Mi) : List Value := [.int .i64 x.q, .int .i64 x.d, .int .i64 x.s, .int .i64 x.m.x.k, .int .i64 x.m.x.r, .int .i64 x.m.x.n, .slice x.m.ad x.m.x.L.length x.m.cap, .string x.m.x.d, .int .i64 x.m.x.y]
theorem iC_len (x : Mi) : (iC x).length = 9 := rfl
def Mi.it (x : Mi) : Ox.It Nx := ⟨x.q, x.d, x.s, pk x.m.x⟩
def its (D : List Mi) : List (Ox.It Nx) := D.map Mi.it
theorem its_len (D : List Mi) : (its D).length = D.length := by simp [its]
theorem its_get (D : List Mi) (j : Nat) (h : j < D.length) : (its D)[j]'(by rw [its_len]; exact h) = D[j].it := by simp [its]
theorem its_get? (D : List Mi) (j : Nat) (h : j < D.length) : (its D)[j]? = some D[j].it := by simp [its, h]
theorem its_take (D : List Mi) (j : Nat) : its (D.take j) = (its D).take j := by simp [its, List.map_take]
theorem its_app (D E : List Mi) : its (D ++ E) = its D ++ its E := by simp [its]
def pks (Q : List Mn) : List Nx := Q.map fun m => pk m.x
theorem pks_len (Q : List Mn) : (pks Q).length = Q.length := by simp [pks]
abbrev ItsRow := RowAt iC
structure ItsAt (w : World) (ad : Option Addr) (D : List Mi) : Prop where
  row : ItsRow w ad D
  nt : ∀ x ∈ D, MnAt w x.m
theorem ItsAt.gr {w w' : World} {ad : Option Addr} {D : List Mi} (h : ItsAt w ad D) (g : Gr w w') : ItsAt w' ad D := ⟨h.row.gr g, fun m hm => (h.nt m hm).gr g⟩
theorem ItsAt.nil {w : World} {ad : Option Addr} : ItsAt w ad [] := ⟨RowAt.nil, by simp⟩
theorem ItsRow.at {w : World} {ad : Option Addr} {D : List Mi} (h : ItsRow w ad D) (k : Nat) (hk : k < D.length) : ∃ b off, ad = some ⟨b, off, none⟩ ∧ b < w.heap.size ∧
    w.cell? ⟨b, off + k * 9, none⟩ = some (.int .i64 D[k].q) ∧ w.cell? ⟨b, off + k * 9 + 1, none⟩ = some (.int .i64 D[k].d) ∧ w.cell? ⟨b, off + k * 9 + 2, none⟩ = some (.int .i64 D[k].s) ∧
    w.cell? ⟨b, off + k * 9 + 3, none⟩ = some (.int .i64 D[k].m.x.k) ∧ w.cell? ⟨b, off + k * 9 + 4, none⟩ = some (.int .i64 D[k].m.x.r) ∧ w.cell? ⟨b, off + k * 9 + 5, none⟩ = some (.int .i64 D[k].m.x.n) ∧
    w.cell? ⟨b, off + k * 9 + 6, none⟩ = some (.slice D[k].m.ad D[k].m.x.L.length D[k].m.cap) ∧ w.cell? ⟨b, off + k * 9 + 7, none⟩ = some (.string D[k].m.x.d) ∧ w.cell? ⟨b, off + k * 9 + 8, none⟩ = some (.int .i64 D[k].m.x.y) := by
  have g := fun i hi => flat_get iC_len D k hk i hi
  obtain ⟨b, off, rfl, hb, c0⟩ := h _ _ (g 0 (by omega))
  obtain ⟨_, _, e, _, c1⟩ := h _ _ (g 1 (by omega)); cases e
  obtain ⟨_, _, e, _, c2⟩ := h _ _ (g 2 (by omega)); cases e
  obtain ⟨_, _, e, _, c3⟩ := h _ _ (g 3 (by omega)); cases e
  obtain ⟨_, _, e, _, c4⟩ := h _ _ (g 4 (by omega)); cases e
  obtain ⟨_, _, e, _, c5⟩ := h _ _ (g 5 (by omega)); cases e
  obtain ⟨_, _, e, _, c6⟩ := h _ _ (g 6 (by omega)); cases e
  obtain ⟨_, _, e, _, c7⟩ := h _ _ (g 7 (by omega)); cases e
  obtain ⟨_, _, e, _, c8⟩ := h _ _ (g 8 (by omega)); cases e
  rw [← Nat.add_assoc] at c1 c2 c3 c4 c5 c6 c7 c8
  exact ⟨b, off, rfl, hb, c0, c1, c2, c3, c4, c5, c6, c7, c8⟩
theorem i_one (D : List Mi) : ∀ u ∈ D.flatMap iC, u.oneCell' = true := by
  intro u hu
  rw [List.mem_flatMap] at hu
  obtain ⟨h, _, hu⟩ := hu
  simp [iC] at hu
  rcases hu with rfl | rfl | rfl | rfl | rfl | rfl | rfl | rfl | rfl <;> rfl
theorem infoItem : (Try.prog.info? 48).map (fun i => (i.zero, i.size, i.bytes)) = some (some (.agg #[.int .i64 0, .int .i64 0, .int .i64 0, .int .i64 0, .int .i64 0, .int .i64 0, .slice none 0 0, .string ⟨#[]⟩, .int .i64 0]), 9, 96) := by kernel_rfl
/- an item's cells in a block of their own -/
theorem i_new (w : World) (x : Mi) (t : TypeId) : ∀ j u, ([x].flatMap iC)[j]? = some u → (w.alloc (.cells (iC x).toArray t)).cell? ((⟨w.heap.size, 0, none⟩ : Addr).add j) = some u := by
  intro j u h
  rw [Addr.add_lit, Nat.zero_add, cell_of_row _ w.heap.size j _ _ _ (heap_alloc_new w _)]
  simpa using h
theorem RowAt.cut {α : Type} {f : α → List Value} {w : World} {ad : Option Addr} {L : List α} (h : RowAt f w ad L) (k : Nat) : RowAt f w ad (L.take k) := by
  intro j u hu
  refine h j u ?_
  have e : L.flatMap f = (L.take k).flatMap f ++ (L.drop k).flatMap f := by rw [← List.flatMap_append, List.take_append_drop]
  have hj : j < ((L.take k).flatMap f).length := (List.getElem?_eq_some_iff.1 hu).1
  rw [e, List.getElem?_append_left hj]; exact hu
theorem ItsAt.cut {w : World} {ad : Option Addr} {D : List Mi} (h : ItsAt w ad D) (k : Nat) : ItsAt w ad (D.take k) := ⟨h.row.cut k, fun x hx => h.nt x (List.mem_of_mem_take hx)⟩

/- a row that may be turned: hops lie in no turned block -/
theorem hops_kept {w w' : World} {ad : Option Addr} {L : List (Int × Int)} {r : Option Nat} (h : HopsAt w ad L) (g : w.grownBy w' r) (hr : L ≠ [] → ∀ a, ad = some a → r ≠ some a.block) : HopsAt w' ad L := by
  intro j hj
  obtain ⟨b, off, e, hb, h1, h2⟩ := h j hj
  have hk : some b ≠ r := fun k => hr (fun hn => by rw [hn] at hj; simp at hj) _ e k.symm
  exact ⟨b, off, e, Nat.lt_of_lt_of_le hb g.size, (World.cell?_of_block (w := w) (g.block b hb hk)).trans h1, (World.cell?_of_block (w := w) (g.block b hb hk)).trans h2⟩
theorem hops_lt {w : World} {ad : Option Addr} {L : List (Int × Int)} (h : HopsAt w ad L) (hn : L ≠ []) {a : Addr} (e : ad = some a) : a.block < w.heap.size := by
  cases L with
  | nil => exact absurd rfl hn
  | cons s t =>
    obtain ⟨b, off, e', hb, _⟩ := h 0 (by simp)
    rw [e] at e'; cases e'
    exact hb
/- a row of items that the call owns -/
structure Bxs (w : World) (base : Nat) (v : Value) (D : List Mi) : Prop where
  own : w.ownsRow base 48 9 v D.length (D.flatMap iC)
  nt : ∀ x ∈ D, MnAt w x.m
  ap : ∀ x ∈ D, x.m.x.L ≠ [] → ∀ a, x.m.ad = some a → v.ownBlock ≠ some a.block
theorem own_gr3 {w w' : World} {base : Nat} {e : TypeId} {size n : Nat} {v : Value} {xs : List Value} (h : w.ownsRow base e size v n xs) (g : Gr w w') : w'.ownsRow base e size v n xs := h.kept g.grownBy (own_or v)
theorem Bxs.nil (w : World) (base : Nat) : Bxs w base (.slice none 0 0) [] := ⟨World.ownsRow_nil _ _ _ _, by simp, by simp⟩
theorem Bxs.gr {w w' : World} {base : Nat} {v : Value} {D : List Mi} (h : Bxs w base v D) (g : Gr w w') : Bxs w' base v D := ⟨own_gr3 h.own g, fun x hx => (h.nt x hx).gr g, h.ap⟩
theorem Bxs.low {w : World} {base base' : Nat} {v : Value} {D : List Mi} (h : Bxs w base v D) (hb : base' ≤ base) : Bxs w base' v D := ⟨own_low h.own hb, h.nt, h.ap⟩
theorem Bxs.at {w : World} {base : Nat} {v : Value} {D : List Mi} (h : Bxs w base v D) : ∃ ad cap, v = .slice ad D.length cap ∧ D.length ≤ cap ∧ cap ≤ 9223372036854775807 ∧ ItsAt w ad D ∧ (∀ a, ad = some a → base ≤ a.block) := by
  obtain ⟨ad, cap, e, h1, h2, h3, h4, _⟩ := own_row h.own
  exact ⟨ad, cap, e, h1, h2, ⟨h3, h.nt⟩, h4⟩
/- one more -/
theorem Bxs.more {w w' : World} {base : Nat} {v v' : Value} {D : List Mi} {x : Mi} (h : Bxs w base v D) (hx : MnAt w x.m) (hxa : x.m.x.L ≠ [] → ∀ a, x.m.ad = some a → v.ownBlock ≠ some a.block)
    (ho : w'.ownsRow base 48 9 v' (D.length + 1) (D.flatMap iC ++ [x].flatMap iC)) (g : w.grownBy w' v.ownBlock) (hat : v'.ownBlock = v.ownBlock ∨ v'.ownBlock = some w.heap.size) : Bxs w' base v' (D ++ [x]) := by
  have key : ∀ y : Mi, MnAt w y.m → (y.m.x.L ≠ [] → ∀ a, y.m.ad = some a → v.ownBlock ≠ some a.block) → MnAt w' y.m ∧ (y.m.x.L ≠ [] → ∀ a, y.m.ad = some a → v'.ownBlock ≠ some a.block) := by
    intro y hy ha
    refine ⟨⟨hops_kept hy.hp g ha, hy.hl, hy.hc, hy.hd⟩, fun hn a e => ?_⟩
    rcases hat with e1 | e1
    · rw [e1]; exact ha hn a e
    · rw [e1]
      have := hops_lt hy.hp hn e
      intro k; have := Option.some.inj k; omega
  refine ⟨?_, fun y hy => ?_, fun y hy => ?_⟩
  · rw [List.flatMap_append, List.length_append]; exact ho
  · rcases List.mem_append.1 hy with hy | hy
    · exact (key y (h.nt y hy) (h.ap y hy)).1
    · rw [List.mem_singleton] at hy; subst hy; exact (key y hx hxa).1
  · rcases List.mem_append.1 hy with hy | hy
    · exact (key y (h.nt y hy) (h.ap y hy)).2
    · rw [List.mem_singleton] at hy; subst hy; exact (key y hx hxa).2
theorem Bxs.grown {a w w' : World} {base : Nat} {v : Value} {D : List Mi} (h : Bxs w base v D) (g : Gr a w) (k : w.grownBy w' v.ownBlock) (hb : a.heap.size ≤ base) : Gr a w' :=
  g.grown k (fun b e => by have := (h.own.lt b e).1; omega)
theorem own_far3 {w : World} {base : Nat} {e : TypeId} {size n : Nat} {v : Value} {xs : List Value} (h : w.ownsRow base e size v n xs) (p : Addr) (u : Value) (hp : v.ownBlock ≠ some p.block) : (w.setCell p u).ownsRow base e size v n xs :=
  h.kept (row := some p.block) ⟨rfl, rfl, rfl, by simp [World.setCell], fun k _ hk => Below.heap_setCell _ _ _ _ (fun e => hk (by rw [e]))⟩ (Or.inr hp)
end Go.Proofs.Ytilkfgpcibdikaa
