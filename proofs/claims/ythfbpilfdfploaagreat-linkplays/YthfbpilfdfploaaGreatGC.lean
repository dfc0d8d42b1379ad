/- Parts of these proofs, laid together. -/
import Derived.Test.YthfbpilfdfploaaGreatGB
import Derived.Test.YthfbpilfdfploaaGreatGA
import Derived.Deep.RegionHeld3
namespace Go.Proofs.YthfbpilfdfploaaGreat
open Go.RowKit
open Lk (St)
open Wn (Wd)

variable {Z : Nat → Prop}
/- notes of links: which may be, their ends, which frames may be -/
def unP (p : Nx) : Nt := ⟨p.1.1, p.1.2.1, p.1.2.2, p.2.1, p.2.2.1, p.2.2.2⟩
def unF (f : Lk.Fr Nx) : Fm := ⟨f.f, f.t, f.e, f.s, f.a, f.c, unP f.n⟩
def CX : Lk.Ctx Nx := ⟨okN, fun p => Nt.ends1 (unP p), fun p => Nt.ends2 (unP p), pk Nt.zeroN, fun f => Nt.frB (unF f)⟩
theorem un_pk (x : Nt) : unP (pk x) = x := rfl
/- another block turns -/
theorem RowAt.gb {α : Type} {f : α → List Value} {b : Nat} {w w' : World} {ad : Option Addr} {L : List α} (h : RowAt f w ad L) (k : GB b w w') (hb : L ≠ [] → ∀ p, ad = some p → p.block ≠ b) : RowAt f w' ad L := by
  intro j u hu
  obtain ⟨g, off, e, hg, h1⟩ := h j u hu
  have hne : g ≠ b := hb (fun k => by rw [k] at hu; simp at hu) _ e
  exact ⟨g, off, e, Nat.lt_of_lt_of_le hg k.size, k.keep hg hne h1⟩
theorem IntsAt.gb {b : Nat} {w w' : World} {ad : Option Addr} {l : List Int} (h : IntsAt w ad l) (k : GB b w w') (hb : l ≠ [] → ∀ p, ad = some p → p.block ≠ b) : IntsAt w' ad l := by
  intro j hj
  obtain ⟨g, o, e, hg, hc⟩ := h j hj
  have hne : g ≠ b := hb (fun k => by rw [k] at hj; simp at hj) _ e
  exact ⟨g, o, e, Nat.lt_of_lt_of_le hg k.size, k.keep hg hne hc⟩
theorem MnAt.gb {b : Nat} {w w' : World} {m : Mn} (h : MnAt Z w m) (k : GB b w w') (hb : ¬ Z b) : MnAt Z w' m :=
  ⟨hops_kept h.hp k.g (fun hn a e kk => hb (by rw [Option.some.inj kk]; exact h.hz hn a e)), h.hl, h.hc, h.hd, h.hz⟩
theorem NtsAt.gb {b : Nat} {w w' : World} {ad : Option Addr} {Q : List Mn} (h : NtsAt Z w ad Q) (k : GB b w w') (hb : ¬ Z b) (hq : Q ≠ [] → ∀ p, ad = some p → Z p.block) : NtsAt Z w' ad Q :=
  ⟨h.row.gb k (fun hn p e kk => hb (by rw [← kk]; exact hq hn p e)), fun m hm => (h.nt m hm).gb k hb⟩
theorem gb_set (g i : Nat) (w : World) (u : Value) : GB g w (w.setCell ⟨g, i, none⟩ u) := (GB.refl g w).setNew _ _ (Or.inr rfl)
theorem Frs.gb {b : Nat} {w w' : World} (h : Frs Z w) (k : GB b w w') : Frs Z w' := fun i hi => h i (Nat.le_trans k.size hi)
/- what a link has: items and a window -/
structure RwC (Z : Nat → Prop) (w : World) (it : List (Ox.It Nx)) (wn : Wd) (a : Option Addr) (c : Nat) (E : List Mi) (a2 : Option Addr) (c2 : Nat) : Prop where
  row : ItsAt Z w a E
  e : its E = it
  ec : E.length ≤ c
  en : E.length ≤ 9223372036854775807
  wd : WdAt w a2 c2 wn
  na : E ≠ [] → ∀ p, a = some p → Z p.block
  nb : wn.seen ≠ [] → ∀ p, a2 = some p → Z p.block
theorem RwC.gr {w w' : World} {it : List (Ox.It Nx)} {wn : Wd} {a : Option Addr} {c : Nat} {E : List Mi} {a2 : Option Addr} {c2 : Nat} (h : RwC Z w it wn a c E a2 c2) (k : Gr w w') : RwC Z w' it wn a c E a2 c2 :=
  ⟨h.row.gr k, h.e, h.ec, h.en, h.wd.gr k, h.na, h.nb⟩
theorem RwC.gb {b : Nat} {w w' : World} {it : List (Ox.It Nx)} {wn : Wd} {a : Option Addr} {c : Nat} {E : List Mi} {a2 : Option Addr} {c2 : Nat} (h : RwC Z w it wn a c E a2 c2) (k : GB b w w') (hb : ¬ Z b) : RwC Z w' it wn a c E a2 c2 :=
  ⟨⟨h.row.row.gb k (fun hn p e kk => hb (by rw [← kk]; exact h.na hn p e)), fun x hx => (h.row.nt x hx).gb k hb⟩, h.e, h.ec, h.en,
   ⟨h.wd.row.gb k (fun hn p e kk => hb (by rw [← kk]; exact h.nb hn p e)), h.wd.fits, h.wd.len, h.wd.non, h.wd.lo0, h.wd.lo1⟩, h.na, h.nb⟩
/- a row that is new -/
structure BxN (Z : Nat → Prop) (w : World) (b : Option Addr) (d : Nat) (F : List Mi) : Prop where
  row : ItsAt Z w b F
  ec : F.length ≤ d
  en : F.length ≤ 9223372036854775807
  na : F ≠ [] → ∀ p, b = some p → Z p.block
theorem Bxs.pts {w : World} {base : Nat} {a : Option Addr} {c : Nat} {E : List Mi} (h : Bxs Z w base (.slice a E.length c) E) (hF : ∀ b, base ≤ b → Z b) : BxN Z w a c E := by
  obtain ⟨_, _, e, h1, h2, hit, h3⟩ := h.at
  cases e
  exact ⟨hit, h1, by omega, fun _ p e => hF _ (h3 p e)⟩
theorem BxN.gr {w w' : World} {b : Option Addr} {d : Nat} {F : List Mi} (h : BxN Z w b d F) (k : Gr w w') : BxN Z w' b d F := ⟨h.row.gr k, h.ec, h.en, h.na⟩
theorem BxN.gb {b : Nat} {w w' : World} {a : Option Addr} {d : Nat} {F : List Mi} (h : BxN Z w a d F) (k : GB b w w') (hb : ¬ Z b) : BxN Z w' a d F :=
  ⟨⟨h.row.row.gb k (fun hn p e kk => hb (by rw [← kk]; exact h.na hn p e)), fun x hx => (h.row.nt x hx).gb k hb⟩, h.ec, h.en, h.na⟩
theorem RwC.items {w : World} {it : List (Ox.It Nx)} {wn : Wd} {a : Option Addr} {c : Nat} {E : List Mi} {a2 : Option Addr} {c2 : Nat} (h : RwC Z w it wn a c E a2 c2) {b : Option Addr} {d : Nat} {F : List Mi} (hF : BxN Z w b d F) : RwC Z w (its F) wn b d F a2 c2 :=
  ⟨hF.row, rfl, hF.ec, hF.en, h.wd, hF.na, h.nb⟩
theorem wd_none (w : World) : WdAt w none 0 ⟨0, []⟩ := ⟨IntsAt.nil, by simp, by simp, fun _ => rfl, by simp, by simp⟩
theorem RwC.window {w : World} {it : List (Ox.It Nx)} {wn : Wd} {a : Option Addr} {c : Nat} {E : List Mi} {a2 : Option Addr} {c2 : Nat} (h : RwC Z w it wn a c E a2 c2) {b : Option Addr} {d : Nat} {W : Wd} (hW : WdAt w b d W) (hn : W.seen ≠ [] → ∀ p, b = some p → Z p.block) : RwC Z w it W a c E b d :=
  ⟨h.row, h.e, h.ec, h.en, hW, h.na, hn⟩

theorem MnAt.turn {Y : Nat → Prop} {w : World} {m : Mn} (h : MnAt Z w m) (hy : ∀ b, b < w.heap.size → Z b → Y b) : MnAt Y w m := ⟨h.hp, h.hl, h.hc, h.hd, fun hn a e => hy _ (hops_lt h.hp hn e) (h.hz hn a e)⟩
theorem RwC.turn {Y : Nat → Prop} {w : World} {it : List (Ox.It Nx)} {wn : Wd} {a : Option Addr} {c : Nat} {E : List Mi} {a2 : Option Addr} {c2 : Nat} (h : RwC Z w it wn a c E a2 c2) (hy : ∀ b, b < w.heap.size → Z b → Y b) : RwC Y w it wn a c E a2 c2 :=
  ⟨⟨h.row.row, fun x hx => (h.row.nt x hx).turn hy⟩, h.e, h.ec, h.en, h.wd,
   (fun hn p e => hy _ (by
      cases E with
      | nil => exact absurd rfl hn
      | cons x t =>
        obtain ⟨b, off, e', hb, _⟩ := ItsRow.at h.row.row 0 (by simp)
        rw [e] at e'; cases e'; exact hb) (h.na hn p e)),
   (fun hn p e => hy _ (by
      have hl : 0 < wn.seen.length := List.length_pos_iff.2 hn
      obtain ⟨b, off, e', hb, _⟩ := h.wd.row 0 hl
      rw [e] at e'; cases e'; exact hb) (h.nb hn p e))⟩
/- a note's cells are written into a block -/
theorem gb_set6 (b : Nat) (w : World) (v0 v1 v2 v3 v4 v5 : Value) : GB b w ((((((w.setCell ⟨b, 0, none⟩ v0).setCell ⟨b, 1, none⟩ v1).setCell ⟨b, 2, none⟩ v2).setCell ⟨b, 3, none⟩ v3).setCell ⟨b, 4, none⟩ v4).setCell ⟨b, 5, none⟩ v5) :=
  (((((gb_set b 0 w v0).trans (gb_set b 1 _ v1)).trans (gb_set b 2 _ v2)).trans (gb_set b 3 _ v3)).trans (gb_set b 4 _ v4)).trans (gb_set b 5 _ v5)
theorem GB.set6 {a w : World} {g : Nat} (h : GB g a w) (b : Nat) (hb : a.heap.size ≤ b) (v0 v1 v2 v3 v4 v5 : Value) : GB g a ((((((w.setCell ⟨b, 0, none⟩ v0).setCell ⟨b, 1, none⟩ v1).setCell ⟨b, 2, none⟩ v2).setCell ⟨b, 3, none⟩ v3).setCell ⟨b, 4, none⟩ v4).setCell ⟨b, 5, none⟩ v5) :=
  (((((h.setNew ⟨b, 0, none⟩ v0 (Or.inl hb)).setNew ⟨b, 1, none⟩ v1 (Or.inl hb)).setNew ⟨b, 2, none⟩ v2 (Or.inl hb)).setNew ⟨b, 3, none⟩ v3 (Or.inl hb)).setNew ⟨b, 4, none⟩ v4 (Or.inl hb)).setNew ⟨b, 5, none⟩ v5 (Or.inl hb)
/- any block of these but one -/
def Bt (Z : Nat → Prop) (n : Nat) : Nat → Prop := fun b => Z b ∧ b ≠ n
theorem Bt.no {n : Nat} : ¬ Bt Z n n := fun h => h.2 rfl
theorem Bt.frs {w w2 : World} {n : Nat} (h : Frs Z w) (h1 : w.heap.size ≤ w2.heap.size) (hn : n < w2.heap.size) : Frs (Bt Z n) w2 := fun b hb => ⟨h b (by omega), by omega⟩

/- frames in memory -/
structure Mf where
  f : Int
  t : Int
  e : Int
  s : Int
  a : Int
  c : Int
  m : Mn
def fC (x : Mf) : List Value := [.int .i64 x.f, .int .i64 x.t, .int .i64 x.e, .int .i64 x.s, .int .i64 x.a, .int .i64 x.c, .int .i64 x.m.x.k, .int .i64 x.m.x.r, .int .i64 x.m.x.n, .slice x.m.ad x.m.x.L.length x.m.cap, .string x.m.x.d, .int .i64 x.m.x.y]
theorem fC_len (x : Mf) : (fC x).length = 12 := rfl
abbrev Mf.v (x : Mf) : Value := .agg #[.int .i64 x.f, .int .i64 x.t, .int .i64 x.e, .int .i64 x.s, .int .i64 x.a, .int .i64 x.c, .int .i64 x.m.x.k, .int .i64 x.m.x.r, .int .i64 x.m.x.n, .slice x.m.ad x.m.x.L.length x.m.cap, .string x.m.x.d, .int .i64 x.m.x.y]
def Mf.fr (x : Mf) : Lk.Fr Nx := ⟨x.f, x.t, x.e, x.s, x.a, x.c, pk x.m.x⟩
def frs (D : List Mf) : List (Lk.Fr Nx) := D.map Mf.fr
theorem frs_len (D : List Mf) : (frs D).length = D.length := by simp [frs]
theorem frs_get? (D : List Mf) (j : Nat) (h : j < D.length) : (frs D)[j]? = some D[j].fr := by simp [frs, h]
theorem f_one (D : List Mf) : ∀ u ∈ D.flatMap fC, u.oneCell' = true := by
  intro u hu
  rw [List.mem_flatMap] at hu
  obtain ⟨h, _, hu⟩ := hu
  simp [fC] at hu
  rcases hu with rfl | rfl | rfl | rfl | rfl | rfl | rfl | rfl | rfl | rfl | rfl | rfl <;> rfl
theorem infoFrame : (Tryz.prog.info? 38).map (fun i => (i.zero, i.size, i.bytes)) = some (some (.agg #[.int .i64 0, .int .i64 0, .int .i64 0, .int .i64 0, .int .i64 0, .int .i64 0, .int .i64 0, .int .i64 0, .int .i64 0, .slice none 0 0, .string ⟨#[]⟩, .int .i64 0]), 12, 120) := by kernel_rfl
theorem f_new (w : World) (x : Mf) (t : TypeId) : ∀ j u, ([x].flatMap fC)[j]? = some u → (w.alloc (.cells (fC x).toArray t)).cell? ((⟨w.heap.size, 0, none⟩ : Addr).add j) = some u := by
  intro j u h
  rw [Addr.add_lit, Nat.zero_add, cell_of_row _ w.heap.size j _ _ _ (heap_alloc_new w _)]
  simpa using h
structure FrsAt (Z : Nat → Prop) (w : World) (ad : Option Addr) (D : List Mf) : Prop where
  row : RowAt fC w ad D
  nt : ∀ x ∈ D, MnAt Z w x.m
theorem FrsAt.gr {w w' : World} {ad : Option Addr} {D : List Mf} (h : FrsAt Z w ad D) (g : Gr w w') : FrsAt Z w' ad D := ⟨h.row.gr g, fun m hm => (h.nt m hm).gr g⟩
theorem FrsAt.nil {w : World} {ad : Option Addr} : FrsAt Z w ad [] := ⟨RowAt.nil, by simp⟩
theorem FrsAt.gb {b : Nat} {w w' : World} {ad : Option Addr} {D : List Mf} (h : FrsAt Z w ad D) (k : GB b w w') (hb : ¬ Z b) (hn : D ≠ [] → ∀ p, ad = some p → Z p.block) : FrsAt Z w' ad D :=
  ⟨h.row.gb k (fun hne p e kk => hb (by rw [← kk]; exact hn hne p e)), fun m hm => (h.nt m hm).gb k hb⟩
theorem FrsRow.at {w : World} {ad : Option Addr} {D : List Mf} (h : RowAt fC w ad D) (k : Nat) (hk : k < D.length) : ∃ b off, ad = some ⟨b, off, none⟩ ∧ b < w.heap.size ∧
    w.cell? ⟨b, off + k * 12, none⟩ = some (.int .i64 D[k].f) ∧ w.cell? ⟨b, off + k * 12 + 1, none⟩ = some (.int .i64 D[k].t) ∧ w.cell? ⟨b, off + k * 12 + 2, none⟩ = some (.int .i64 D[k].e) ∧
    w.cell? ⟨b, off + k * 12 + 3, none⟩ = some (.int .i64 D[k].s) ∧ w.cell? ⟨b, off + k * 12 + 4, none⟩ = some (.int .i64 D[k].a) ∧ w.cell? ⟨b, off + k * 12 + 5, none⟩ = some (.int .i64 D[k].c) ∧
    w.cell? ⟨b, off + k * 12 + 6, none⟩ = some (.int .i64 D[k].m.x.k) ∧ w.cell? ⟨b, off + k * 12 + 7, none⟩ = some (.int .i64 D[k].m.x.r) ∧ w.cell? ⟨b, off + k * 12 + 8, none⟩ = some (.int .i64 D[k].m.x.n) ∧
    w.cell? ⟨b, off + k * 12 + 9, none⟩ = some (.slice D[k].m.ad D[k].m.x.L.length D[k].m.cap) ∧ w.cell? ⟨b, off + k * 12 + 10, none⟩ = some (.string D[k].m.x.d) ∧ w.cell? ⟨b, off + k * 12 + 11, none⟩ = some (.int .i64 D[k].m.x.y) := by
  have g := fun i hi => flat_get fC_len D k hk i hi
  obtain ⟨b, off, rfl, hb, c0⟩ := h _ _ (g 0 (by omega))
  obtain ⟨_, _, e, _, c1⟩ := h _ _ (g 1 (by omega)); cases e
  obtain ⟨_, _, e, _, c2⟩ := h _ _ (g 2 (by omega)); cases e
  obtain ⟨_, _, e, _, c3⟩ := h _ _ (g 3 (by omega)); cases e
  obtain ⟨_, _, e, _, c4⟩ := h _ _ (g 4 (by omega)); cases e
  obtain ⟨_, _, e, _, c5⟩ := h _ _ (g 5 (by omega)); cases e
  obtain ⟨_, _, e, _, c6⟩ := h _ _ (g 6 (by omega)); cases e
  obtain ⟨_, _, e, _, c7⟩ := h _ _ (g 7 (by omega)); cases e
  obtain ⟨_, _, e, _, c8⟩ := h _ _ (g 8 (by omega)); cases e
  obtain ⟨_, _, e, _, c9⟩ := h _ _ (g 9 (by omega)); cases e
  obtain ⟨_, _, e, _, c10⟩ := h _ _ (g 10 (by omega)); cases e
  obtain ⟨_, _, e, _, c11⟩ := h _ _ (g 11 (by omega)); cases e
  rw [← Nat.add_assoc] at c1 c2 c3 c4 c5 c6 c7 c8 c9 c10 c11
  exact ⟨b, off, rfl, hb, c0, c1, c2, c3, c4, c5, c6, c7, c8, c9, c10, c11⟩
/- a row of frames that the call owns -/
structure Fxs (Z : Nat → Prop) (w : World) (base : Nat) (v : Value) (D : List Mf) : Prop where
  own : w.ownsRow base 38 12 v D.length (D.flatMap fC)
  nt : ∀ x ∈ D, MnAt Z w x.m
  ap : ∀ x ∈ D, x.m.x.L ≠ [] → ∀ a, x.m.ad = some a → v.ownBlock ≠ some a.block
theorem Fxs.nil (w : World) (base : Nat) : Fxs Z w base (.slice none 0 0) [] := ⟨World.ownsRow_nil _ _ _ _, by simp, by simp⟩
theorem Fxs.gr {w w' : World} {base : Nat} {v : Value} {D : List Mf} (h : Fxs Z w base v D) (g : Gr w w') : Fxs Z w' base v D := ⟨own_gr3 h.own g, fun x hx => (h.nt x hx).gr g, h.ap⟩
theorem Fxs.low {w : World} {base base' : Nat} {v : Value} {D : List Mf} (h : Fxs Z w base v D) (hb : base' ≤ base) : Fxs Z w base' v D := ⟨own_low h.own hb, h.nt, h.ap⟩
theorem Fxs.at {w : World} {base : Nat} {v : Value} {D : List Mf} (h : Fxs Z w base v D) : ∃ ad cap, v = .slice ad D.length cap ∧ D.length ≤ cap ∧ cap ≤ 9223372036854775807 ∧ FrsAt Z w ad D ∧ (∀ a, ad = some a → base ≤ a.block) := by
  obtain ⟨ad, cap, e, h1, h2, h3, h4, _⟩ := own_row h.own
  exact ⟨ad, cap, e, h1, h2, ⟨h3, h.nt⟩, h4⟩
theorem Fxs.more {w w' : World} {base : Nat} {v v' : Value} {D : List Mf} {x : Mf} (h : Fxs Z w base v D) (hx : MnAt Z w x.m) (hxa : x.m.x.L ≠ [] → ∀ a, x.m.ad = some a → v.ownBlock ≠ some a.block)
    (ho : w'.ownsRow base 38 12 v' (D.length + 1) (D.flatMap fC ++ [x].flatMap fC)) (g : w.grownBy w' v.ownBlock) (hat : v'.ownBlock = v.ownBlock ∨ v'.ownBlock = some w.heap.size) : Fxs Z w' base v' (D ++ [x]) := by
  have key : ∀ y : Mf, MnAt Z w y.m → (y.m.x.L ≠ [] → ∀ a, y.m.ad = some a → v.ownBlock ≠ some a.block) → MnAt Z w' y.m ∧ (y.m.x.L ≠ [] → ∀ a, y.m.ad = some a → v'.ownBlock ≠ some a.block) := by
    intro y hy ha
    refine ⟨⟨hops_kept hy.hp g ha, hy.hl, hy.hc, hy.hd, hy.hz⟩, fun hn a e => ?_⟩
    rcases hat with e1 | e1
    · rw [e1]; exact ha hn a e
    · rw [e1]
      have := hops_lt hy.hp hn e
      intro k; have := Option.some.inj k; omega
  refine ⟨?_, fun y hy => ?_, fun y hy => ?_⟩
  · rw [List.flatMap_append, List.length_append]; exact ho
  · rcases List.mem_append.1 hy with hy | hy
    · exact (key y (h.nt y hy) (h.ap y hy)).1
    · rw [List.mem_singleton] at hy; subst hy; exact (key y hx hxa).1
  · rcases List.mem_append.1 hy with hy | hy
    · exact (key y (h.nt y hy) (h.ap y hy)).2
    · rw [List.mem_singleton] at hy; subst hy; exact (key y hx hxa).2
theorem Fxs.grown {a w w' : World} {base : Nat} {v : Value} {D : List Mf} (h : Fxs Z w base v D) (g : Gr a w) (k : w.grownBy w' v.ownBlock) (hb : a.heap.size ≤ base) : Gr a w' :=
  g.grown k (fun b e => by have := (h.own.lt b e).1; omega)
theorem Fxs.far {w : World} {base : Nat} {v : Value} {D : List Mf} (h : Fxs Z w base v D) {b i : Nat} {u : Value} (hb : ¬ Z b) (hl : b < base) : Fxs Z (w.setCell ⟨b, i, none⟩ u) base v D :=
  ⟨own_far3 h.own _ _ (fun e => by have := (h.own.lt _ e).1; exact absurd hl (by simpa using this)), fun x hx => (h.nt x hx).gb (gb_set b i w u) hb, h.ap⟩
theorem Fxs.slice {base : Nat} {v : Value} {D : List Mf} {w : World} (h : Fxs Z w base v D) : ∃ a c, v = .slice a D.length c := by
  obtain ⟨a, c, e, _⟩ := h.at
  exact ⟨a, c, e⟩
end Go.Proofs.YthfbpilfdfploaaGreat
namespace Go.Proofs.YthfbpilfdfploaaGreat
open Go.RowKit

theorem dropN {α : Type} (l : List α) (k : Nat) (h : l.length ≤ k) : l.drop k = [] := List.drop_eq_nil_of_le h

theorem isNaN_any (x : Int) (w : World) : Calls Tryz.prog 113 #[.int .i64 x] w fun e w' => e = .returned (.bool false) ∧ w' = w := by
  have h : (x != x) = false := by simp
  go_enter Tryz.func113, Tryz.ntmps113
  go_wp2
  go_ret
  exact ⟨rfl, rfl⟩

set_option maxHeartbeats 400000 in
theorem compare_any (x y : Int) (w : World) : Calls Tryz.prog 117 #[.int .i64 x, .int .i64 y] w fun e w' => e = .returned (.int .i64 (Idn.cmpI x y)) ∧ w' = w := by
  have H1 : Hid (Calls Tryz.prog 113 #[.int .i64 x] w fun e w' => e = .returned (.bool false) ∧ w' = w) := isNaN_any x w
  have H2 : Hid (Calls Tryz.prog 113 #[.int .i64 y] w fun e w' => e = .returned (.bool false) ∧ w' = w) := isNaN_any y w
  by_cases h : x < y
  · have HE : Hid (Idn.cmpI x y = -1) := by show _ = _; simp [Idn.cmpI, h]
    go_enter Tryz.func117, Tryz.ntmps117
    go_wp2_with fail
    refine H1.out.mono ?_
    rintro e1 w1 ⟨rfl, hw1⟩; obtain rfl := hw1.symm
    go_wp2_with fail
    refine H2.out.mono ?_
    rintro e1 w1 ⟨rfl, hw1⟩; obtain rfl := hw1.symm
    go_wp2
    go_ret
    exact ⟨by rw [HE.out]; rfl, rfl⟩
  · by_cases h2 : y < x
    · have HE : Hid (Idn.cmpI x y = 1) := by show _ = _; simp [Idn.cmpI, h, h2]
      go_enter Tryz.func117, Tryz.ntmps117
      go_wp2_with fail
      refine H1.out.mono ?_
      rintro e1 w1 ⟨rfl, hw1⟩; obtain rfl := hw1.symm
      go_wp2_with fail
      refine H2.out.mono ?_
      rintro e1 w1 ⟨rfl, hw1⟩; obtain rfl := hw1.symm
      go_wp2
      go_ret
      exact ⟨by rw [HE.out]; rfl, rfl⟩
    · have HE : Hid (Idn.cmpI x y = 0) := by show _ = _; simp [Idn.cmpI, h, h2]
      go_enter Tryz.func117, Tryz.ntmps117
      go_wp2_with fail
      refine H1.out.mono ?_
      rintro e1 w1 ⟨rfl, hw1⟩; obtain rfl := hw1.symm
      go_wp2_with fail
      refine H2.out.mono ?_
      rintro e1 w1 ⟨rfl, hw1⟩; obtain rfl := hw1.symm
      go_wp2
      go_ret
      exact ⟨by rw [HE.out]; rfl, rfl⟩

def orL : List Int → Int
  | [] => 0
  | x :: l => Idn.orI x (orL l)

set_option maxHeartbeats 400000 in
theorem or_any (l : List Int) (ad : Option Addr) (cap : Nat) (w : World) (hL : IntsAt w ad l) (hn : l.length ≤ 1000) :
    Calls Tryz.prog 116 #[.slice ad l.length cap] w fun e w' => e = .returned (.int .i64 (orL l)) ∧ w' = w := by
  have HL : Hid (IntsAt w ad l) := hL
  clear hL
  go_enter Tryz.func116, Tryz.ntmps116
  go_wp2
  go_loop [8] (fun i => ∃ k : Nat, k ≤ l.length ∧ i = .int .i64 k ∧ orL l = orL (l.drop k)) (fun i => l.length - (intOf i).toNat)
  case atStart => exact ⟨0, by omega, rfl, rfl⟩
  case round =>
    obtain ⟨k, hk, rfl, hp⟩ := hrel
    have HP : Hid (orL l = orL (l.drop k)) := hp
    clear hp
    by_cases hlt : k < l.length
    · obtain ⟨b, off, rfl, hbl, hc⟩ := HL.out k hlt
      have HP2 : Hid (orL l = Idn.orI l[k] (orL (l.drop (k + 1)))) := by
        show _ = _
        rw [HP.out, List.drop_eq_getElem_cons hlt]; rfl
      generalize l[k] = o at *
      by_cases h0 : o = 0
      · subst h0
        go_wp2
        go_round
        case rel => exact ⟨k + 1, by omega, by go_num, HP2.out⟩
        case measure => simp [intOf]; omega
      · have hne : (o != 0) = true := by rw [bne_iff_ne]; exact h0
        have HF : Hid (orL l = o) := by show _ = _; rw [HP2.out, Idn.orI, if_neg h0]
        go_wp2
        go_ret
        exact ⟨by rw [HF.out]; rfl, rfl⟩
    · have HF : Hid (orL l = 0) := by show _ = _; rw [HP.out, List.drop_eq_nil_of_le (by omega)]; rfl
      go_wp2
      go_ret
      exact ⟨by rw [HF.out]; rfl, rfl⟩

theorem ints_lit2 (w : World) (a b : Int) (t : TypeId) (g : Nat) (hg : g = w.heap.size) : IntsAt (w.alloc (.cells #[.int .i64 a, .int .i64 b] t)) (some ⟨g, 0, none⟩) [a, b] := by
  subst hg
  intro j hj
  refine ⟨_, _, rfl, by simp, ?_⟩
  match j, hj with
  | 0, _ => simp
  | 1, _ => simp
theorem ints_lit3 (w : World) (a b c : Int) (t : TypeId) (g : Nat) (hg : g = w.heap.size) : IntsAt (w.alloc (.cells #[.int .i64 a, .int .i64 b, .int .i64 c] t)) (some ⟨g, 0, none⟩) [a, b, c] := by
  subst hg
  intro j hj
  refine ⟨_, _, rfl, by simp, ?_⟩
  match j, hj with
  | 0, _ => simp
  | 1, _ => simp
  | 2, _ => simp

set_option maxHeartbeats 2000000 in
set_option maxRecDepth 100000 in
theorem compareHops_any (x y : Int × Int) (w : World) : Calls Tryz.prog 119 #[.agg #[.int .i64 x.1, .int .i64 x.2], .agg #[.int .i64 y.1, .int .i64 y.2]] w fun e w' => e = .returned (.int .i64 (Idn.cmpP x y)) ∧ Gr w w' := by
  have HE : Hid (Idn.cmpP x y = orL [Idn.cmpI x.1 y.1, Idn.cmpI x.2 y.2]) := by
    show _ = _
    unfold Idn.cmpP orL orL orL Idn.orI
    split <;> (try split) <;> omega
  obtain ⟨x1, x2⟩ := x
  obtain ⟨y1, y2⟩ := y
  simp only at *
  have HC : Hid (∀ (a b : Int) (w' : World), Calls Tryz.prog 117 #[.int .i64 a, .int .i64 b] w' fun e w2 => e = .returned (.int .i64 (Idn.cmpI a b)) ∧ w2 = w') := compare_any
  have H3 : Hid (∀ (a b : Int) (w' : World) (g : Nat), IntsAt w' (some ⟨g, 0, none⟩) [a, b] → Calls Tryz.prog 116 #[.slice (some ⟨g, 0, none⟩) 2 2] w' fun e w2 => e = .returned (.int .i64 (orL [a, b])) ∧ w2 = w') := fun a b w' g h => or_any [a, b] _ 2 w' h (by simp)
  go_enter Tryz.func119, Tryz.ntmps119
  go_wp2
  go_region_held3 (fun w' => w'.cell? ⟨w.heap.size, 0, none⟩ = some (.int .i64 x1) ∧ w'.cell? ⟨w.heap.size, 1, none⟩ = some (.int .i64 x2) ∧ w'.cell? ⟨w.heap.size + 1, 0, none⟩ = some (.int .i64 y1) ∧ w'.cell? ⟨w.heap.size + 1, 1, none⟩ = some (.int .i64 y2)) (go_keep) ((first | (go_at_call 117; refine (HC.out _ _ _).mono ?_; rintro e w2 ⟨rfl, rfl⟩) | (go_at_call 116; refine (H3.out (Idn.cmpI x1 y1) (Idn.cmpI x2 y2) _ _ ?_).mono ?_; (exact ints_lit2 _ _ _ _ _ (by simp)); rintro e w2 ⟨rfl, rfl⟩)))
  all_goals go_wp2
  all_goals go_ret
  all_goals exact ⟨by rw [HE.out]; rfl, (by repeat(first|exact Gr.r _|refine Gr.a ?_|refine Gr.d ?_|refine Gr.t ?_ (by assumption)))⟩

set_option maxHeartbeats 1000000 in
set_option maxRecDepth 100000 in
theorem compareFunc_any (L M : List (Int × Int)) (ad ad2 : Option Addr) (cap cap2 : Nat) (w : World) (hL : HopsAt w ad L) (hM : HopsAt w ad2 M) (hn : L.length ≤ 9223372036854775807) (hm : M.length ≤ 9223372036854775807) :
    Calls Tryz.prog 118 #[.slice ad L.length cap, .slice ad2 M.length cap2, .func (.func 119) #[] #[]] w fun e w' => e = .returned (.int .i64 (Idn.cmpH L M)) ∧ Gr w w' := by
  have HL : Hid (HopsAt w ad L) := hL
  have HM : Hid (HopsAt w ad2 M) := hM
  have HC : Hid (∀ (x1 x2 y1 y2 : Int) (w' : World), Calls Tryz.prog 119 #[.agg #[.int .i64 x1, .int .i64 x2], .agg #[.int .i64 y1, .int .i64 y2]] w' fun e w2 => e = .returned (.int .i64 (Idn.cmpP (x1, x2) (y1, y2))) ∧ Gr w' w2) := fun x1 x2 y1 y2 w' => compareHops_any (x1, x2) (y1, y2) w'
  clear hL hM
  go_enter Tryz.func118, Tryz.ntmps118
  go_wp2
  go_loopw [13] (fun i wr => ∃ k : Nat, k ≤ L.length ∧ k ≤ M.length ∧ i = .int .i64 k ∧ Idn.cmpH L M = Idn.cmpH (L.drop k) (M.drop k) ∧ Gr w wr) (fun i _ => L.length - (intOf i).toNat)
  case atStart => exact ⟨0, by omega, by omega, rfl, rfl, Gr.refl _⟩
  case round =>
    obtain ⟨k, hk, hk2, rfl, hp, hg⟩ := hrel
    have HP : Hid (Idn.cmpH L M = Idn.cmpH (L.drop k) (M.drop k)) := hp
    clear hp
    by_cases hlt : k < L.length
    · obtain ⟨b, off, rfl, hbl, hc, hd⟩ := HL.out k hlt
      have hc' := hg.keep hc
      have hd' := hg.keep hd
      clear hc hd
      by_cases hlt2 : k < M.length
      · obtain ⟨b2, off2, rfl, hbl2, hc2, hd2⟩ := HM.out k hlt2
        have hc2' := hg.keep hc2
        have hd2' := hg.keep hd2
        have HP2 : Hid (Idn.cmpH L M = Idn.orI (Idn.cmpP L[k] M[k]) (Idn.cmpH (L.drop (k + 1)) (M.drop (k + 1)))) := by
          show _ = _
          rw [HP.out, List.drop_eq_getElem_cons hlt, List.drop_eq_getElem_cons hlt2]; rfl
        obtain ⟨⟨x1, x2⟩, hx⟩ : ∃ h, L[k] = h := ⟨_, rfl⟩
        obtain ⟨⟨y1, y2⟩, hy⟩ : ∃ h, M[k] = h := ⟨_, rfl⟩
        rw [hx] at hc' hd' HP2
        rw [hy] at hc2' hd2' HP2
        have hbw : b2 < wr.heap.size := Nat.lt_of_lt_of_le hbl2 hg.size
        have hge : ¬ ((M.length : Int) ≤ k) := by omega
        clear hc2 hd2 hx hy HP HL HM
        by_cases h0 : Idn.cmpP (x1, x2) (y1, y2) = 0
        · have HF : Hid (Idn.cmpH L M = Idn.cmpH (L.drop (k + 1)) (M.drop (k + 1))) := by show _ = _; rw [HP2.out, h0]; rfl
          have HC2 : Hid (∀ w' : World, Calls Tryz.prog 119 #[.agg #[.int .i64 x1, .int .i64 x2], .agg #[.int .i64 y1, .int .i64 y2]] w' fun e w2 => e = .returned (.int .i64 0) ∧ Gr w' w2) := by
            intro w'; have := HC.out x1 x2 y1 y2 w'; rw [h0] at this; exact this
          clear HC HP2 h0
          go_wp2_with fail
          refine (HC2.out _).mono ?_
          rintro e1 w1 ⟨rfl, hg1⟩
          go_wp2
          go_roundw
          case rel => exact ⟨k + 1, by omega, by omega, by go_num, HF.out, (by repeat(first|exact Gr.r _|refine Gr.a ?_|refine Gr.d ?_|refine Gr.t ?_ (by assumption)))⟩
          case measure => simp [intOf]; omega
        · have HF : Hid (Idn.cmpH L M = Idn.cmpP (x1, x2) (y1, y2)) := by show _ = _; rw [HP2.out, Idn.orI, if_neg h0]
          have HC2 : Hid (∀ w' : World, Calls Tryz.prog 119 #[.agg #[.int .i64 x1, .int .i64 x2], .agg #[.int .i64 y1, .int .i64 y2]] w' fun e w2 => e = .returned (.int .i64 (Idn.cmpP (x1, x2) (y1, y2))) ∧ Gr w' w2) := HC.out x1 x2 y1 y2
          generalize Idn.cmpP (x1, x2) (y1, y2) = c at *
          have hne : (c != 0) = true := by rw [bne_iff_ne]; exact h0
          clear HC HP2
          go_wp2_with fail
          refine (HC2.out _).mono ?_
          rintro e1 w1 ⟨rfl, hg1⟩
          go_wp2
          go_ret
          exact ⟨by rw [HF.out]; rfl, (by repeat(first|exact Gr.r _|refine Gr.a ?_|refine Gr.d ?_|refine Gr.t ?_ (by assumption)))⟩
      · have HF : Hid (Idn.cmpH L M = 1) := by
          show _ = _
          rw [HP.out, List.drop_eq_getElem_cons hlt, dropN M k (by omega)]; rfl
        have hge : (M.length : Int) ≤ k := by omega
        generalize L[k] = h at *
        clear HC HP HL HM
        go_wp2
        go_ret
        exact ⟨by rw [HF.out]; rfl, (by repeat(first|exact Gr.r _|refine Gr.a ?_|refine Gr.d ?_|refine Gr.t ?_ (by assumption)))⟩
    · by_cases hlt2 : L.length < M.length
      · have HF : Hid (Idn.cmpH L M = -1) := by
          show _ = _
          rw [HP.out, List.drop_eq_getElem_cons (l := M) (i := k) (by omega), dropN L k (by omega)]; rfl
        go_wp2
        go_ret
        exact ⟨by rw [HF.out]; rfl, (by repeat(first|exact Gr.r _|refine Gr.a ?_|refine Gr.d ?_|refine Gr.t ?_ (by assumption)))⟩
      · have HF : Hid (Idn.cmpH L M = 0) := by
          show _ = _
          rw [HP.out, dropN L k (by omega), dropN M k (by omega)]; rfl
        go_wp2
        go_ret
        exact ⟨by rw [HF.out]; rfl, (by repeat(first|exact Gr.r _|refine Gr.a ?_|refine Gr.d ?_|refine Gr.t ?_ (by assumption)))⟩

end Go.Proofs.YthfbpilfdfploaaGreat
namespace Go.Proofs.YthfbpilfdfploaaGreat
open Go.RowKit

set_option maxHeartbeats 2000000 in
set_option maxRecDepth 100000 in
theorem cmp_any (r n : Int) (L : List (Int × Int)) (ad : Option Addr) (cap : Nat) (r2 n2 : Int) (M : List (Int × Int)) (ad2 : Option Addr) (cap2 : Nat) (w : World) (hL : HopsAt w ad L) (hM : HopsAt w ad2 M) (hn : L.length ≤ 9223372036854775807) (hm : M.length ≤ 9223372036854775807) :
    Calls Tryz.prog 109 #[.agg #[.int .i64 r, .int .i64 n, .slice ad L.length cap], .agg #[.int .i64 r2, .int .i64 n2, .slice ad2 M.length cap2]] w fun e w' => e = .returned (.int .i64 (Idn.cmpE r n L r2 n2 M)) ∧ Gr w w' := by
  have HE : Hid (Idn.cmpE r n L r2 n2 M = orL [Idn.cmpI r r2, Idn.cmpI n n2, Idn.cmpH L M]) := by
    show _ = _
    unfold Idn.cmpE orL orL orL orL Idn.orI
    split <;> (try split) <;> (try split) <;> omega
  have HC : Hid (∀ (a b : Int) (w' : World), Calls Tryz.prog 117 #[.int .i64 a, .int .i64 b] w' fun e w2 => e = .returned (.int .i64 (Idn.cmpI a b)) ∧ w2 = w') := compare_any
  have H3 : Hid (∀ (a b c : Int) (w' : World) (g : Nat), IntsAt w' (some ⟨g, 0, none⟩) [a, b, c] → Calls Tryz.prog 116 #[.slice (some ⟨g, 0, none⟩) 3 3] w' fun e w2 => e = .returned (.int .i64 (orL [a, b, c])) ∧ w2 = w') := fun a b c w' g h => or_any [a, b, c] _ 3 w' h (by simp)
  have HF : Hid (∀ w', Gr w w' → Calls Tryz.prog 118 #[.slice ad L.length cap, .slice ad2 M.length cap2, .func (.func 119) #[] #[]] w' fun e w2 => e = .returned (.int .i64 (Idn.cmpH L M)) ∧ Gr w' w2) := fun w' g => compareFunc_any L M ad ad2 cap cap2 w' (hL.gr g) (hM.gr g) hn hm
  clear hL hM
  go_enter Tryz.func109, Tryz.ntmps109
  go_wp2
  go_region_held3 (fun w' => Gr w w' ∧ w'.cell? ⟨w.heap.size, 0, none⟩ = some (.int .i64 r) ∧ w'.cell? ⟨w.heap.size, 1, none⟩ = some (.int .i64 n) ∧ w'.cell? ⟨w.heap.size, 2, none⟩ = some (.slice ad L.length cap) ∧ w'.cell? ⟨w.heap.size + 1, 0, none⟩ = some (.int .i64 r2) ∧ w'.cell? ⟨w.heap.size + 1, 1, none⟩ = some (.int .i64 n2) ∧ w'.cell? ⟨w.heap.size + 1, 2, none⟩ = some (.slice ad2 M.length cap2))
    ((go_split_ands; refine ⟨?_, ?_, ?_, ?_, ?_, ?_, ?_⟩ <;> first | assumption | go_keep | exact Gr.keep (by assumption) (by assumption) | exact (by repeat(first|exact Gr.r _|refine Gr.a ?_|refine Gr.d ?_|refine Gr.t ?_ (by assumption)))))
    ((first | (go_at_call 117; refine (HC.out _ _ _).mono ?_; rintro e w2 ⟨rfl, rfl⟩) | (go_at_call 118; refine (HF.out _ ?_).mono ?_; (go_split_ands; exact (by repeat(first|exact Gr.r _|refine Gr.a ?_|refine Gr.d ?_|refine Gr.t ?_ (by assumption)))); rintro e w2 ⟨rfl, hg2⟩) | (go_at_call 116; refine (H3.out (Idn.cmpI r r2) (Idn.cmpI n n2) (Idn.cmpH L M) _ _ ?_).mono ?_; (exact ints_lit3 _ _ _ _ _ _ (by simp)); rintro e w2 ⟨rfl, rfl⟩)))
  all_goals go_wp2
  all_goals go_ret
  all_goals exact ⟨by rw [HE.out]; rfl, (by repeat(first|exact Gr.r _|refine Gr.a ?_|refine Gr.d ?_|refine Gr.t ?_ (by assumption)))⟩
end Go.Proofs.YthfbpilfdfploaaGreat
namespace Go.Proofs.YthfbpilfdfploaaGreat
open Go.RowKit

variable {Z : Nat → Prop}
theorem tx_eq (s t : ByteArray) : (s.toList == t.toList) = decide (s = t) := by
  rw [ByteArray.toList_eq, ByteArray.toList_eq]
  by_cases h : s = t
  · subst h; simp
  · rw [decide_eq_false h, beq_eq_false_iff_ne]
    intro e
    exact h (by cases s; cases t; simp at e; subst e; rfl)
set_option maxHeartbeats 400000 in
theorem oWithin_any (n l h : Int) (w : World) : Calls Tryz.prog 66 #[.int .i64 n, .int .i64 l, .int .i64 h] w fun e w' => e = .returned (.bool (Nt.inB n l h)) ∧ w' = w := by
  unfold Nt.inB
  by_cases a : l ≤ n
  · rw [decide_eq_true a, Bool.true_and]
    go_enter Tryz.func66, Tryz.ntmps66
    go_wp2
    go_ret
    exact ⟨rfl, rfl⟩
  · rw [decide_eq_false a, Bool.false_and]
    go_enter Tryz.func66, Tryz.ntmps66
    go_wp2
    go_ret
    exact ⟨rfl, rfl⟩
theorem tm_in (n : Int) : Nt.inB n 0 1000000000 = Ox.tmB n := by unfold Nt.inB Ox.tmB; rw [Bool.eq_iff_iff]; simp
set_option maxHeartbeats 400000 in
theorem isTime_any (n : Int) (w : World) : Calls Tryz.prog 67 #[.int .i64 n] w fun e w' => e = .returned (.bool (Ox.tmB n)) ∧ w' = w := by
  have HW : Hid (∀ w', Calls Tryz.prog 66 #[.int .i64 n, .int .i64 0, .int .i64 1000000000] w' fun e w2 => e = .returned (.bool (Ox.tmB n)) ∧ w2 = w') := fun w' => by rw [← tm_in]; exact oWithin_any n 0 1000000000 w'
  generalize Ox.tmB n = b at *
  go_enter Tryz.func67, Tryz.ntmps67
  go_wp2_with fail
  refine (HW.out _).mono ?_
  rintro e1 w1 ⟨rfl, hw1⟩; obtain rfl := hw1.symm
  go_wp2
  go_ret
  exact ⟨rfl, rfl⟩

/- are two notes the same? -/
theorem same_parts (k r n : Int) (L : List (Int × Int)) (d : ByteArray) (y k2 r2 n2 : Int) (M : List (Int × Int)) (d2 : ByteArray) (y2 : Int) (c : Bool) (hc : c = decide (r = r2 ∧ n = n2 ∧ L = M)) :
    decide (pk ⟨k, r, n, L, d, y⟩ = pk ⟨k2, r2, n2, M, d2, y2⟩) = ((k == k2) && c && (d.toList == d2.toList) && (y == y2)) := by
  rw [tx_eq, hc, Bool.eq_iff_iff]
  simp only [pk, Prod.mk.injEq, decide_eq_true_eq, Bool.and_eq_true, beq_iff_eq]
  constructor
  · rintro ⟨⟨h1, h2, h3⟩, h4, h5, h6⟩; exact ⟨⟨⟨h1, h2, h3, h4⟩, h5⟩, h6⟩
  · rintro ⟨⟨⟨h1, h2, h3, h4⟩, h5⟩, h6⟩; exact ⟨⟨h1, h2, h3⟩, h4, h5, h6⟩
set_option maxHeartbeats 2000000 in
set_option maxRecDepth 100000 in
theorem oSame_any (m m2 : Mn) (w : World) (h : MnAt Z w m) (h2 : MnAt Z w m2) :
    Calls Tryz.prog 90 #[m.v, m2.v] w fun e w' => e = .returned (.bool (decide (pk m.x = pk m2.x))) ∧ Gr w w' := by
  obtain ⟨⟨k, r, n, L, d, y⟩, ad, cap⟩ := m
  obtain ⟨⟨k2, r2, n2, M, d2, y2⟩, ad2, cap2⟩ := m2
  have HC : Hid (∀ w', Gr w w' → Calls Tryz.prog 109 #[.agg #[.int .i64 r, .int .i64 n, .slice ad L.length cap], .agg #[.int .i64 r2, .int .i64 n2, .slice ad2 M.length cap2]] w' fun e w2 => e = .returned (.int .i64 (Idn.cmpE r n L r2 n2 M)) ∧ Gr w' w2) := fun w' g => cmp_any r n L ad cap r2 n2 M ad2 cap2 w' (h.hp.gr g) (h2.hp.gr g) h.hl h2.hl
  have hz := Idn.cmpE_zero r n L r2 n2 M
  have HE := Lib.hid (same_parts k r n L d y k2 r2 n2 M d2 y2 (Idn.cmpE r n L r2 n2 M == 0) (by rw [Bool.eq_iff_iff, decide_eq_true_iff, beq_iff_eq, hz]))
  generalize Idn.cmpE r n L r2 n2 M = c at *
  clear h h2 hz
  dsimp only [Mn.v] at *
  generalize L.length = ll at *
  generalize M.length = ml at *
  generalize decide (pk ⟨k, r, n, L, d, y⟩ = pk ⟨k2, r2, n2, M, d2, y2⟩) = R at *
  cases hk : (k == k2) with
  | false =>
    rw [hk] at HE
    go_enter Tryz.func90, Tryz.ntmps90
    go_wp2
    go_ret
    exact ⟨by rw [HE.out]; rfl, (by repeat(first|exact Gr.r _|refine Gr.a ?_|refine Gr.d ?_|refine Gr.t ?_ (by assumption)))⟩
  | true =>
    rw [hk] at HE
    go_enter Tryz.func90, Tryz.ntmps90
    go_wp2_with fail
    refine (HC.out _ ?_).mono ?_
    · exact (by repeat(first|exact Gr.r _|refine Gr.a ?_|refine Gr.d ?_|refine Gr.t ?_ (by assumption)))
    rintro e1 w1 ⟨rfl, hg1⟩
    have B1 := ((Cs.new w [.int .i64 k, .int .i64 r, .int .i64 n, .slice ad ll cap, .string d, .int .i64 y] 36 _ rfl).alloc (o := .cells #[.int .i64 k2, .int .i64 r2, .int .i64 n2, .slice ad2 ml cap2, .string d2, .int .i64 y2] 36)).gr hg1
    have D1 := (Cs.new (w.alloc (.cells #[.int .i64 k, .int .i64 r, .int .i64 n, .slice ad ll cap, .string d, .int .i64 y] 36)) [.int .i64 k2, .int .i64 r2, .int .i64 n2, .slice ad2 ml cap2, .string d2, .int .i64 y2] 36 (w.heap.size + 1) (by simp)).gr hg1
    have c4 := B1.at_ 4 _ rfl
    have c5 := B1.at_ 5 _ rfl
    have clt := B1.lt
    have d4 := D1.at_ 4 _ rfl
    have d5 := D1.at_ 5 _ rfl
    have dlt := D1.lt
    cases hc : (c == 0) with
    | false =>
      rw [hc] at HE
      go_wp2
      go_ret
      exact ⟨by rw [HE.out]; rfl, (by repeat(first|exact Gr.r _|refine Gr.a ?_|refine Gr.d ?_|refine Gr.t ?_ (by assumption)))⟩
    | true =>
      rw [hc] at HE
      cases hd : (d.toList == d2.toList) with
      | false =>
        rw [hd] at HE
        go_wp2
        go_ret
        exact ⟨by rw [HE.out]; rfl, (by repeat(first|exact Gr.r _|refine Gr.a ?_|refine Gr.d ?_|refine Gr.t ?_ (by assumption)))⟩
      | true =>
        rw [hd] at HE
        go_wp2
        go_ret
        exact ⟨by rw [HE.out]; rfl, (by repeat(first|exact Gr.r _|refine Gr.a ?_|refine Gr.d ?_|refine Gr.t ?_ (by assumption)))⟩

/- the closure of has: a box with the note that is asked for -/
set_option maxHeartbeats 2000000 in
set_option maxRecDepth 100000 in
theorem hasC_any (x : Mi) (m : Mn) (g : Nat) (w : World) (hx : MnAt Z w x.m) (hm : MnAt Z w m) (hb : Cs w g (nC m)) :
    Calls Tryz.prog 89 #[x.v, .pointer (some ⟨g, 0, none⟩)] w fun e w' => e = .returned (.bool (decide (pk x.m.x = pk m.x))) ∧ Gr w w' := by
  have HS : Hid (∀ w', Gr w w' → Calls Tryz.prog 90 #[x.m.v, m.v] w' fun e w2 => e = .returned (.bool (decide (pk x.m.x = pk m.x))) ∧ Gr w' w2) := fun w' g => oSame_any x.m m w' (hx.gr g) (hm.gr g)
  generalize decide (pk x.m.x = pk m.x) = R at *
  obtain ⟨q, dd, s, ⟨⟨k, r, n, L, d, y⟩, ad, cap⟩⟩ := x
  obtain ⟨⟨k2, r2, n2, M, d2, y2⟩, ad2, cap2⟩ := m
  have c0 := hb.at_ 0 _ rfl
  have c1 := hb.at_ 1 _ rfl
  have c2 := hb.at_ 2 _ rfl
  have c3 := hb.at_ 3 _ rfl
  have c4 := hb.at_ 4 _ rfl
  have c5 := hb.at_ 5 _ rfl
  have clt := hb.lt
  clear hb hx hm
  dsimp only [Mn.v, Mi.v] at *
  generalize L.length = ll at *
  generalize M.length = ml at *
  go_enter Tryz.func89, Tryz.ntmps89
  go_wp2_with fail
  refine (HS.out _ ?_).mono ?_
  · exact (by repeat(first|exact Gr.r _|refine Gr.a ?_|refine Gr.d ?_|refine Gr.t ?_ (by assumption)))
  rintro e1 w1 ⟨rfl, hg1⟩
  go_wp2
  go_ret
  exact ⟨rfl, (by repeat(first|exact Gr.r _|refine Gr.a ?_|refine Gr.d ?_|refine Gr.t ?_ (by assumption)))⟩

/- where the first such item is -/
theorem among_its (D : List Mi) (p : Nx) : Ox.among (its D) p = true ↔ ∃ (j : Nat) (h : j < D.length), pk D[j].m.x = p := by
  rw [Ox.among_iff]
  constructor
  · rintro ⟨x, hx, e⟩
    obtain ⟨y, hy, rfl⟩ := List.mem_map.1 hx
    obtain ⟨j, hj, rfl⟩ := List.getElem_of_mem hy
    exact ⟨j, hj, e⟩
  · rintro ⟨j, hj, e⟩
    exact ⟨D[j].it, List.mem_map.2 ⟨_, List.getElem_mem hj, rfl⟩, e⟩
theorem among_no {D : List Mi} {p : Nx} (h : ∀ (j : Nat) (hj : j < D.length), pk D[j].m.x ≠ p) : Ox.among (its D) p = false := by
  cases e : Ox.among (its D) p with
  | false => rfl
  | true =>
    obtain ⟨j, hj, e2⟩ := (among_its D p).1 e
    exact absurd e2 (h j hj)
set_option maxHeartbeats 4000000 in
set_option maxRecDepth 100000 in
theorem indexFunc_any (D : List Mi) (m : Mn) (ad : Option Addr) (cap g : Nat) (w : World) (hD : ItsAt Z w ad D) (hn : D.length ≤ 9223372036854775807) (hm : MnAt Z w m) (hb : Cs w g (nC m)) :
    Calls Tryz.prog 108 #[.slice ad D.length cap, .func (.func 89) #[] #[.pointer (some ⟨g, 0, none⟩)]] w fun e w' => ∃ i : Int, e = .returned (.int .i64 i) ∧ decide (0 ≤ i) = Ox.among (its D) (pk m.x) ∧ Gr w w' := by
  have HC : Hid (∀ x ∈ D, ∀ w', Gr w w' → Calls Tryz.prog 89 #[x.v, .pointer (some ⟨g, 0, none⟩)] w' fun e w2 => e = .returned (.bool (decide (pk x.m.x = pk m.x))) ∧ Gr w' w2) := fun x hx w' gr => hasC_any x m g w' ((hD.nt x hx).gr gr) (hm.gr gr) (hb.gr gr)
  have HD := Lib.hid hD.row
  have HA : Hid (∀ (j : Nat) (hj : j < D.length), pk D[j].m.x = pk m.x → Ox.among (its D) (pk m.x) = true) := fun j hj e => (among_its D _).2 ⟨j, hj, e⟩
  have HN : Hid ((∀ (j : Nat) (hj : j < D.length), pk D[j].m.x ≠ pk m.x) → Ox.among (its D) (pk m.x) = false) := among_no
  generalize Ox.among (its D) (pk m.x) = R at *
  generalize pk m.x = p at *
  clear hD hm hb
  go_enter Tryz.func108, Tryz.ntmps108
  go_wp2
  go_loopw [8] (fun s8 wr => ∃ j : Nat, s8 = .int .i64 j ∧ j ≤ D.length ∧ (∀ (i : Nat) (hi : i < D.length), i < j → pk D[i].m.x ≠ p) ∧ Gr w wr) (fun s8 _ => D.length - (intOf s8).toNat)
  case atStart => exact ⟨0, rfl, Nat.zero_le _, fun i _ h => absurd h (Nat.not_lt_zero _), Gr.refl _⟩
  case round =>
    obtain ⟨j, rfl, hj, hno, hg⟩ := hrel
    have HNO := Lib.hid hno
    have HG := Lib.hid hg
    clear hno
    by_cases hlt : j < D.length
    · obtain ⟨b, off, rfl, hbl, d0, d1, d2, d3, d4, d5, d6, d7, d8⟩ := ItsRow.at HD.out j hlt
      have d0 := hg.keep d0
      have d1 := hg.keep d1
      have d2 := hg.keep d2
      have d3 := hg.keep d3
      have d4 := hg.keep d4
      have d5 := hg.keep d5
      have d6 := hg.keep d6
      have d7 := hg.keep d7
      have d8 := hg.keep d8
      have hbw : b < wr.heap.size := Nat.lt_of_lt_of_le hbl hg.size
      have hji : (j : Int) < (D.length : Int) := by omega
      have HX := Lib.hid (HC.out D[j] (List.getElem_mem hlt))
      have HY : Hid (pk D[j].m.x = p → R = true) := HA.out j hlt
      have HZ : Hid (¬ pk D[j].m.x = p → ∀ (i : Nat) (hi : i < D.length), i < j + 1 → pk D[i].m.x ≠ p) := by
        intro h i hi hij
        by_cases e : i = j
        · subst e; exact h
        · exact HNO.out i hi (by omega)
      clear hg
      generalize D[j] = x at *
      by_cases hq : pk x.m.x = p
      · rw [decide_eq_true hq] at HX
        have HR := Lib.hid (HY.out hq)
        clear HY HZ hq
        obtain ⟨q, dd, s, ⟨⟨k, r, n, L, d, y⟩, ad, cap⟩⟩ := x
        dsimp only [Mn.v, Mi.v] at *
        go_wp2_with fail
        refine (HX.out _ HG.out).mono ?_
        rintro e1 w1 ⟨rfl, hg1⟩
        have HG1 := Lib.hid (HG.out.trans hg1)
        clear d0 d1 d2 d3 d4 d5 d6 d7 d8
        go_wp2
        go_ret
        exact ⟨_, rfl, by rw [HR.out]; simp, HG1.out⟩
      · rw [decide_eq_false hq] at HX
        have HR := Lib.hid (HZ.out hq)
        clear HY HZ hq
        obtain ⟨q, dd, s, ⟨⟨k, r, n, L, d, y⟩, ad, cap⟩⟩ := x
        dsimp only [Mn.v, Mi.v] at *
        go_wp2_with fail
        refine (HX.out _ HG.out).mono ?_
        rintro e1 w1 ⟨rfl, hg1⟩
        have HG1 := Lib.hid (HG.out.trans hg1)
        clear d0 d1 d2 d3 d4 d5 d6 d7 d8
        go_wp2
        go_roundw
        case rel => exact ⟨j + 1, by go_num, by omega, HR.out, HG1.out⟩
        case measure => simp [intOf]; omega
    · have hge : ¬ ((j : Int) < (D.length : Int)) := by omega
      have HR := Lib.hid (HN.out (fun i hi => HNO.out i hi (by omega)))
      go_wp2
      go_ret
      exact ⟨-1, rfl, by rw [HR.out]; rfl, HG.out⟩
set_option maxHeartbeats 1000000 in
theorem containsFunc_any (D : List Mi) (m : Mn) (ad : Option Addr) (cap g : Nat) (w : World) (hD : ItsAt Z w ad D) (hn : D.length ≤ 9223372036854775807) (hm : MnAt Z w m) (hb : Cs w g (nC m)) :
    Calls Tryz.prog 88 #[.slice ad D.length cap, .func (.func 89) #[] #[.pointer (some ⟨g, 0, none⟩)]] w fun e w' => e = .returned (.bool (Ox.among (its D) (pk m.x))) ∧ Gr w w' := by
  have HI : Hid (∀ w', Gr w w' → Calls Tryz.prog 108 #[.slice ad D.length cap, .func (.func 89) #[] #[.pointer (some ⟨g, 0, none⟩)]] w' fun e w2 => ∃ i : Int, e = .returned (.int .i64 i) ∧ decide (0 ≤ i) = Ox.among (its D) (pk m.x) ∧ Gr w' w2) := fun w' gr => indexFunc_any D m ad cap g w' (hD.gr gr) hn (hm.gr gr) (hb.gr gr)
  generalize Ox.among (its D) (pk m.x) = R at *
  clear hD hm hb
  go_enter Tryz.func88, Tryz.ntmps88
  go_wp2_with fail
  refine (HI.out _ ?_).mono ?_
  · exact (by repeat(first|exact Gr.r _|refine Gr.a ?_|refine Gr.d ?_|refine Gr.t ?_ (by assumption)))
  rintro e1 w1 ⟨i, rfl, hi, hg1⟩
  have HI2 := Lib.hid hi
  clear hi
  go_wp2
  go_ret
  exact ⟨by rw [← HI2.out]; rfl, (by repeat(first|exact Gr.r _|refine Gr.a ?_|refine Gr.d ?_|refine Gr.t ?_ (by assumption)))⟩
set_option maxHeartbeats 1000000 in
theorem has_any (D : List Mi) (m : Mn) (ad : Option Addr) (cap : Nat) (w : World) (hD : ItsAt Z w ad D) (hn : D.length ≤ 9223372036854775807) (hm : MnAt Z w m) :
    Calls Tryz.prog 62 #[.slice ad D.length cap, m.v] w fun e w' => e = .returned (.bool (Ox.among (its D) (pk m.x))) ∧ Gr w w' := by
  have HI : Hid (Calls Tryz.prog 88 #[.slice ad D.length cap, .func (.func 89) #[] #[.pointer (some ⟨w.heap.size, 0, none⟩)]] (w.alloc (.cells (nC m).toArray 36)) fun e w2 => e = .returned (.bool (Ox.among (its D) (pk m.x))) ∧ Gr (w.alloc (.cells (nC m).toArray 36)) w2) := containsFunc_any D m ad cap _ _ (hD.gr (Gr.refl _).alloc) hn (hm.gr (Gr.refl _).alloc) (Cs.new w (nC m) 36 _ rfl)
  generalize Ox.among (its D) (pk m.x) = R at *
  clear hD hm
  obtain ⟨⟨k, r, n, L, d, y⟩, ad2, cap2⟩ := m
  dsimp only [Mn.v, nC] at *
  generalize L.length = ll at *
  go_enter Tryz.func62, Tryz.ntmps62
  have hmf : ∀ (fn : Fn) (first cap : Array Value) (w : World), (Instr.makeFunc fn first cap).run Tryz.prog w = .ok (.func fn first cap) w := fun _ _ _ _ => rfl
  go_wp2_with fail
  refine HI.out.mono ?_
  rintro e1 w1 ⟨rfl, hg1⟩
  go_wp2
  go_ret
  exact ⟨rfl, (by repeat(first|exact Gr.r _|refine Gr.a ?_|refine Gr.d ?_|refine Gr.t ?_ (by assumption)))⟩
end Go.Proofs.YthfbpilfdfploaaGreat
namespace Go.Proofs.YthfbpilfdfploaaGreat
open Go.RowKit

def pathE (r n : Int) (L : List (Int × Int)) : List Int := if Idn.mayB r n L = true then Idn.path r L else []
def orgE (r n : Int) (L : List (Int × Int)) : Int := (pathE r n L).getLastD (-1)
theorem may_len {r n : Int} {L : List (Int × Int)} (h : Idn.mayB r n L = true) : L.length ≤ 4 := by
  unfold Idn.mayB at h
  simp only [Bool.and_eq_true, decide_eq_true_eq] at h
  exact h.1.1.2

set_option maxHeartbeats 1000000 in
set_option maxRecDepth 100000 in
theorem path_any (r n : Int) (L : List (Int × Int)) (ad : Option Addr) (cap : Nat) (w : World) (hL : HopsAt w ad L) (hn : L.length ≤ 9223372036854775807) :
    Calls Tryz.prog 97 #[.agg #[.int .i64 r, .int .i64 n, .slice ad L.length cap]] w fun e w' =>
      ∃ ad2 cap2, e = .returned (.slice ad2 (pathE r n L).length cap2) ∧ (pathE r n L).length ≤ cap2 ∧ IntsAt w' ad2 (pathE r n L) ∧ Gr w w' := by
  have HC : Hid (∀ w', Gr w w' → Calls Tryz.prog 95 #[.agg #[.int .i64 r, .int .i64 n, .slice ad L.length cap]] w' fun e w2 => e = .returned (.int .i64 (errB (Idn.mayB r n L))) ∧ Gr w' w2) := fun w' g => check_any r n L ad cap w' (hL.gr g) hn
  by_cases hm : Idn.mayB r n L = true
  · have h4 := may_len hm
    have HO : Hid (∀ w', Gr w w' → Calls Tryz.prog 112 #[.agg #[.int .i64 r, .int .i64 n, .slice ad L.length cap]] w' fun e w2 => ∃ ad2 cap2, e = .returned (.slice ad2 (L.length + 1) cap2) ∧ L.length + 1 ≤ cap2 ∧ IntsAt w2 ad2 (Idn.path r L) ∧ Gr w' w2) := fun w' g => pathOf_any r n L ad cap w' (hL.gr g) (by omega)
    have HE : Hid (pathE r n L = Idn.path r L) := by show _ = _; unfold pathE; rw [if_pos hm]
    rw [hm, show errB true = 0 from rfl] at HC
    clear hL hm
    go_enter Tryz.func97, Tryz.ntmps97
    go_wp2_with fail
    refine (HC.out _ (by repeat(first|exact Gr.r _|refine Gr.a ?_|refine Gr.d ?_|refine Gr.t ?_ (by assumption)))).mono ?_
    rintro e1 w1 ⟨rfl, hg1⟩
    obtain ⟨hc1, hf1⟩ := hg1.cells
    go_wp2_with fail
    refine (HO.out _ (by repeat(first|exact Gr.r _|refine Gr.a ?_|refine Gr.d ?_|refine Gr.t ?_ (by assumption)))).mono ?_
    rintro e2 w2 ⟨ad2, cap2, rfl, hcp, hia, hg2⟩
    have HI : Hid (IntsAt w2 ad2 (Idn.path r L)) := hia
    clear hia
    go_wp2
    go_ret
    rw [HE.out, path_len]
    exact ⟨ad2, cap2, rfl, hcp, HI.out, (by repeat(first|exact Gr.r _|refine Gr.a ?_|refine Gr.d ?_|refine Gr.t ?_ (by assumption)))⟩
  · have hm' : Idn.mayB r n L = false := by simpa using hm
    have HE : Hid (pathE r n L = []) := by show _ = _; unfold pathE; rw [if_neg hm]
    rw [hm', show errB false = 30 from rfl] at HC
    clear hL hm hm'
    go_enter Tryz.func97, Tryz.ntmps97
    go_wp2_with fail
    refine (HC.out _ (by repeat(first|exact Gr.r _|refine Gr.a ?_|refine Gr.d ?_|refine Gr.t ?_ (by assumption)))).mono ?_
    rintro e1 w1 ⟨rfl, hg1⟩
    go_wp2
    go_ret
    rw [HE.out]
    exact ⟨none, 0, rfl, by simp, fun j h => absurd h (by simp), (by repeat(first|exact Gr.r _|refine Gr.a ?_|refine Gr.d ?_|refine Gr.t ?_ (by assumption)))⟩

set_option maxHeartbeats 1000000 in
set_option maxRecDepth 100000 in
theorem org_any (r n : Int) (L : List (Int × Int)) (ad : Option Addr) (cap : Nat) (w : World) (hL : HopsAt w ad L) (hn : L.length ≤ 9223372036854775807) :
    Calls Tryz.prog 65 #[.agg #[.int .i64 r, .int .i64 n, .slice ad L.length cap]] w fun e w' => e = .returned (.int .i64 (orgE r n L)) ∧ Gr w w' := by
  have HC : Hid (∀ w', Gr w w' → Calls Tryz.prog 97 #[.agg #[.int .i64 r, .int .i64 n, .slice ad L.length cap]] w' fun e w2 => ∃ ad2 cap2, e = .returned (.slice ad2 (pathE r n L).length cap2) ∧ (pathE r n L).length ≤ cap2 ∧ IntsAt w2 ad2 (pathE r n L) ∧ Gr w' w2) := fun w' g => path_any r n L ad cap w' (hL.gr g) hn
  have hl5 : (pathE r n L).length ≤ 5 := by
    unfold pathE
    split
    · next h => rw [path_len]; have := may_len h; omega
    · simp
  have HE : Hid (orgE r n L = (pathE r n L).getLastD (-1)) := rfl
  generalize pathE r n L = l at *
  clear hL
  by_cases h0 : l = []
  · subst h0
    go_enter Tryz.func65, Tryz.ntmps65
    go_wp2_with fail
    refine (HC.out _ (by repeat(first|exact Gr.r _|refine Gr.a ?_|refine Gr.d ?_|refine Gr.t ?_ (by assumption)))).mono ?_
    rintro e1 w1 ⟨ad2, cap2, rfl, hcp, hia, hg1⟩
    go_wp2
    go_ret
    exact ⟨by rw [HE.out]; rfl, (by repeat(first|exact Gr.r _|refine Gr.a ?_|refine Gr.d ?_|refine Gr.t ?_ (by assumption)))⟩
  · have hp : 0 < l.length := List.length_pos_iff.2 h0
    have hne : ((l.length : Int) == 0) = false := by rw [beq_eq_false_iff_ne]; omega
    have HL : Hid (orgE r n L = l[l.length - 1]'(by omega)) := by
      show _ = _
      rw [HE.out, List.getLastD_eq_getLast?, List.getLast?_eq_getElem?, List.getElem?_eq_getElem (by omega)]; rfl
    have hsub : (l.length : Int) - 1 = ((l.length - 1 : Nat) : Int) := by omega
    have hlt1 : l.length - 1 < l.length := by omega
    go_enter Tryz.func65, Tryz.ntmps65
    go_wp2_with fail
    refine (HC.out _ (by repeat(first|exact Gr.r _|refine Gr.a ?_|refine Gr.d ?_|refine Gr.t ?_ (by assumption)))).mono ?_
    rintro e1 w1 ⟨ad2, cap2, rfl, hcp, hia, hg1⟩
    obtain ⟨b, off, rfl, hbl, hc⟩ := hia (l.length - 1) (by omega)
    clear hia
    generalize l[l.length - 1]'hlt1 = o at *
    go_wp2
    go_ret
    exact ⟨by rw [HL.out]; rfl, (by repeat(first|exact Gr.r _|refine Gr.a ?_|refine Gr.d ?_|refine Gr.t ?_ (by assumption)))⟩
end Go.Proofs.YthfbpilfdfploaaGreat
namespace Go.Proofs.YthfbpilfdfploaaGreat
open Go.RowKit

theorem aLetter_any (b : UInt8) (w : World) : Calls Tryz.prog 120 #[.int .u8 (b.toNat : Int)] w fun e w' => e = .returned (.bool (Act.letB b)) ∧ w' = w := by
  unfold Act.letB
  by_cases h0 : (97 : Int) ≤ (b.toNat : Int)
  · by_cases h1 : (b.toNat : Int) ≤ 122
    · rw [decide_eq_true h0, decide_eq_true h1]
      go_enter Tryz.func120, Tryz.ntmps120
      go_wp2
      go_ret
      exact ⟨rfl, rfl⟩
    · rw [decide_eq_true h0, decide_eq_false h1]
      go_enter Tryz.func120, Tryz.ntmps120
      go_wp2
      go_ret
      exact ⟨rfl, rfl⟩
  · rw [decide_eq_false h0]
    go_enter Tryz.func120, Tryz.ntmps120
    go_wp2
    go_ret
    exact ⟨rfl, rfl⟩
theorem aDigit_any (b : UInt8) (w : World) : Calls Tryz.prog 121 #[.int .u8 (b.toNat : Int)] w fun e w' => e = .returned (.bool (Act.digB b)) ∧ w' = w := by
  unfold Act.digB
  by_cases h0 : (48 : Int) ≤ (b.toNat : Int)
  · by_cases h1 : (b.toNat : Int) ≤ 57
    · rw [decide_eq_true h0, decide_eq_true h1]
      go_enter Tryz.func121, Tryz.ntmps121
      go_wp2
      go_ret
      exact ⟨rfl, rfl⟩
    · rw [decide_eq_true h0, decide_eq_false h1]
      go_enter Tryz.func121, Tryz.ntmps121
      go_wp2
      go_ret
      exact ⟨rfl, rfl⟩
  · rw [decide_eq_false h0]
    go_enter Tryz.func121, Tryz.ntmps121
    go_wp2
    go_ret
    exact ⟨rfl, rfl⟩

set_option maxHeartbeats 4000000 in
set_option maxRecDepth 100000 in
theorem name_any (s : ByteArray) (w : World) (hs : s.size ≤ 9223372036854775807) : Calls Tryz.prog 110 #[.string s] w fun e w' => e = .returned (.bool (Act.nameB s)) ∧ w' = w := by
  by_cases hz : s.size = 0
  · have HE : Hid (Act.nameB s = false) := Act.name_empty s hz
    have hb : (s.toList == []) = true := by
      rw [show s.toList = s.data.toList from ByteArray.toList_eq s]
      have hl : s.data.toList.length = s.size := by simp
      rw [List.length_eq_zero_iff.1 (hl.trans hz)]; rfl
    go_enter Tryz.func110, Tryz.ntmps110
    go_wp2
    go_ret
    exact ⟨by rw [HE.out]; rfl, rfl⟩
  have hb : (s.toList == []) = false := by
    rw [show s.toList = s.data.toList from ByteArray.toList_eq s]
    have hl : s.data.toList.length = s.size := by simp
    rw [beq_eq_false_iff_ne]
    intro e; rw [e] at hl; simp at hl; omega
  have hp : 0 < s.size := by omega
  by_cases h16 : (16 : Int) < (s.size : Int)
  · have HE : Hid (Act.nameB s = false) := Act.name_long s (by omega)
    go_enter Tryz.func110, Tryz.ntmps110
    go_wp2
    go_ret
    exact ⟨by rw [HE.out]; rfl, rfl⟩
  have HL : Hid (∀ (b : UInt8) (w : World), Calls Tryz.prog 120 #[.int .u8 (b.toNat : Int)] w fun e w' => e = .returned (.bool (Act.letB b)) ∧ w' = w) := aLetter_any
  have HD : Hid (∀ (b : UInt8) (w : World), Calls Tryz.prog 121 #[.int .u8 (b.toNat : Int)] w fun e w' => e = .returned (.bool (Act.digB b)) ∧ w' = w) := aDigit_any
  cases h0 : Act.letB (s[0]'hp) with
  | false =>
    have HE : Hid (Act.nameB s = false) := Act.name_head s hp h0
    go_enter Tryz.func110, Tryz.ntmps110
    go_wp2_with fail
    refine (HL.out (s[0]'hp) _).mono ?_
    rintro e w1 ⟨rfl, hw1⟩; obtain rfl := hw1.symm
    go_wp2
    go_ret
    exact ⟨by rw [HE.out]; rfl, rfl⟩
  | true =>
    go_enter Tryz.func110, Tryz.ntmps110
    go_wp2_with fail
    refine (HL.out (s[0]'hp) _).mono ?_
    rintro e w1 ⟨rfl, hw1⟩; obtain rfl := hw1.symm
    go_wp2
    go_loop [19] (fun i => ∃ k : Nat, k ≤ s.size ∧ i = .int .i64 k ∧ ∀ j (hj : j < s.size), j < k → Act.sgnB (s[j]'hj) = true) (fun i => s.size - (intOf i).toNat)
    case atStart => exact ⟨0, by omega, rfl, fun j hj h => absurd h (by omega)⟩
    case round =>
      obtain ⟨k, hk, rfl, hall⟩ := hrel
      have HA : Hid (∀ j (hj : j < s.size), j < k → Act.sgnB (s[j]'hj) = true) := hall
      clear hall
      by_cases hlt : k < s.size
      · cases hlk : Act.letB (s[k]'hlt) with
        | true =>
          have HS : Hid (Act.sgnB (s[k]'hlt) = true) := Act.sgn_let hlk
          go_wp2_with fail
          refine (HL.out (s[k]'hlt) _).mono ?_
          rintro e w1 ⟨rfl, hw1⟩; obtain rfl := hw1.symm
          go_wp2
          go_round
          case rel => exact ⟨k + 1, by omega, by go_num, fun j hj h => if e : j = k then by subst e; exact HS.out else HA.out j hj (by omega)⟩
          case measure => simp [intOf]; omega
        | false =>
          cases hdk : Act.digB (s[k]'hlt) with
          | true =>
            have HS : Hid (Act.sgnB (s[k]'hlt) = true) := Act.sgn_dig hdk
            go_wp2_with fail
            refine (HL.out (s[k]'hlt) _).mono ?_
            rintro e w1 ⟨rfl, hw1⟩; obtain rfl := hw1.symm
            go_wp2_with fail
            refine (HD.out (s[k]'hlt) _).mono ?_
            rintro e w1 ⟨rfl, hw1⟩; obtain rfl := hw1.symm
            go_wp2
            go_round
            case rel => exact ⟨k + 1, by omega, by go_num, fun j hj h => if e : j = k then by subst e; exact HS.out else HA.out j hj (by omega)⟩
            case measure => simp [intOf]; omega
          | false =>
            have HE : Hid (Act.nameB s = false) := Act.name_sign s k hlt (Act.sgn_no hlk hdk)
            go_wp2_with fail
            refine (HL.out (s[k]'hlt) _).mono ?_
            rintro e w1 ⟨rfl, hw1⟩; obtain rfl := hw1.symm
            go_wp2_with fail
            refine (HD.out (s[k]'hlt) _).mono ?_
            rintro e w1 ⟨rfl, hw1⟩; obtain rfl := hw1.symm
            go_wp2
            go_ret
            exact ⟨by rw [HE.out]; rfl, rfl⟩
      · have HE : Hid (Act.nameB s = true) := Act.name_yes s hp (by omega) h0 (fun j hj => HA.out j hj (by omega))
        go_wp2
        go_ret
        exact ⟨by rw [HE.out]; rfl, rfl⟩
end Go.Proofs.YthfbpilfdfploaaGreat
namespace Go.Proofs.YthfbpilfdfploaaGreat
variable {P : Program} {md : Region.Mode} {ops : Array Oper} {Q : Exit → Act → World → Prop} {S : World → Prop}

theorem take_yes (i d : Nat) {oi : Oper} {v : Value} {fuel : Nat} {listed : Array Bool} {a : Act} {w : World} (hi : ops[i]? = some oi) (hd : oi.dst = some d)
    (hs : Region.noSelect ops = true) (hf : Region.free md ops listed i = true) (hr : (Region.ready md ops listed).contains i = true)
    (hQ : ∀ c a w, Q (.panic c) (a.put (some d) v) w → Q (.panic c) a w) (hw : Region.wanted oi (yielded ops a.tmps) = true) (hy : ∀ w, S w → (execOp a.eval oi).run P w = .ok (.value v) w) (hS : S w)
    (h : wpAnyH P md ops Q S fuel (listed.setIfInBounds i true) (a.put (some d) v) w) : wpAnyH P md ops Q S (fuel + 1) listed a w := by
  rw [← hd] at hQ h
  exact wpAnyH_take hi hs hf hr hQ (Or.inl ⟨hw, hy⟩) hS h
theorem take_not (i d : Nat) {oi : Oper} {fuel : Nat} {listed : Array Bool} {a : Act} {w : World} (hi : ops[i]? = some oi) (hd : oi.dst = some d)
    (hs : Region.noSelect ops = true) (hf : Region.free md ops listed i = true) (hr : (Region.ready md ops listed).contains i = true)
    (hQ : ∀ c a w, Q (.panic c) (a.put (some d) undef) w → Q (.panic c) a w) (hw : Region.wanted oi (yielded ops a.tmps) = false) (hS : S w)
    (h : wpAnyH P md ops Q S fuel (listed.setIfInBounds i true) (a.put (some d) undef) w) : wpAnyH P md ops Q S (fuel + 1) listed a w := by
  rw [← hd] at hQ h
  exact wpAnyH_take hi hs hf hr hQ (Or.inr ⟨hw, rfl⟩) hS h
/- the same in few words -/
theorem ty (i d : Nat) {oi : Oper} {v : Value} {fuel : Nat} {listed : Array Bool} {a a' : Act} {w : World} (hS : S w) (h : wpAnyH P md ops Q S fuel (listed.setIfInBounds i true) a' w)
    (hi : ops[i]? = some oi := by rfl) (hd : oi.dst = some d := by rfl) (hs : Region.noSelect ops = true := by kernel_rfl) (hf : Region.free md ops listed i = true := by kernel_rfl) (hr : (Region.ready md ops listed).contains i = true := by kernel_rfl)
    (hQ : ∀ c a w, Q (.panic c) (a.put (some d) v) w → Q (.panic c) a w := by exact fun _ _ _ h => h) (hw : Region.wanted oi (yielded ops a.tmps) = true := by rfl)
    (hy : ∀ w, S w → (execOp a.eval oi).run P w = .ok (.value v) w := by (intro w hSw; (try dsimp only at hSw); go_simp; try with_reducible rfl))
    (ha : a.put (some d) v = a' := by (simp only [Act.put, List.setIfInBounds_toArray, List.set_cons_zero, List.set_cons_succ]; rfl)) : wpAnyH P md ops Q S (fuel + 1) listed a w := by
  subst ha
  exact take_yes i d hi hd hs hf hr hQ hw hy hS h
theorem tn (i d : Nat) {oi : Oper} {fuel : Nat} {listed : Array Bool} {a a' : Act} {w : World} (hS : S w) (h : wpAnyH P md ops Q S fuel (listed.setIfInBounds i true) a' w)
    (hi : ops[i]? = some oi := by rfl) (hd : oi.dst = some d := by rfl) (hs : Region.noSelect ops = true := by kernel_rfl) (hf : Region.free md ops listed i = true := by kernel_rfl) (hr : (Region.ready md ops listed).contains i = true := by kernel_rfl)
    (hQ : ∀ c a w, Q (.panic c) (a.put (some d) undef) w → Q (.panic c) a w := by exact fun _ _ _ h => h) (hw : Region.wanted oi (yielded ops a.tmps) = false := by rfl)
    (ha : a.put (some d) undef = a' := by (simp only [Act.put, List.setIfInBounds_toArray, List.set_cons_zero, List.set_cons_succ]; rfl)) : wpAnyH P md ops Q S (fuel + 1) listed a w := by
  subst ha
  exact take_not i d hi hd hs hf hr hQ hw hS h
end Go.Proofs.YthfbpilfdfploaaGreat
