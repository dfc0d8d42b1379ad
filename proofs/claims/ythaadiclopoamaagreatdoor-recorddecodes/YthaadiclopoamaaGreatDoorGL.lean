/- Parts of these proofs, laid together. -/
import Derived.Test.YthaadiclopoamaaGreatDoorGI
import Derived.Test.YthaadiclopoamaaGreatDoorGJ
import Derived.Test.YthaadiclopoamaaGreatDoorGK
import Derived.Test.YthaadiclopoamaaGreatDoorGH
import Derived.Test.YthaadiclopoamaaGreatDoorGB
import Derived.Test.YthaadiclopoamaaGreatDoorGA
import Derived.Laws.NewBlocks
/- def: a reader's definition. -/
set_option maxRecDepth 100000
set_option maxHeartbeats 8000000
namespace Go.Proofs.YthaadiclopoamaaGreatDoor
open Go.RowKit Go.Maps
open Lex (Tok valE valB)
open Df (Stp St tk Gd isT passB passS mustS takeB takeV stpV stpS lopS defQ defN defR)

def boolCell : Option Value -> Nat
 | some (.bool true) => 0
 | _ => 1

/- a struct of two cells in memory that may be written -/
structure TwoAt (w : World) (g : Nat) (x y : Value) : Prop where
 c0 : w.cell? ⟨g, 0, none⟩ = some x
 c1 : w.cell? ⟨g, 1, none⟩ = some y
 f0 : w.frozen? ⟨g, 0, none⟩ = false
 f1 : w.frozen? ⟨g, 1, none⟩ = false
 lt : g < w.heap.size
theorem TwoAt.new (w : World) (x y : Value) (t : TypeId) (g : Nat) (hg : g = w.heap.size) : TwoAt (w.alloc (.cells #[x, y] t)) g x y := by
 subst hg
 exact ⟨by simp, by simp, by simp [go_sem], by simp [go_sem], by simp⟩
theorem TwoAt.gr {w w' : World} {g : Nat} {x y : Value} (h : TwoAt w g x y) (k : Gr w w') : TwoAt w' g x y :=
 ⟨k.keep h.c0, k.keep h.c1, k.keepF h.lt h.f0, k.keepF h.lt h.f1, Nat.lt_of_lt_of_le h.lt k.size⟩
theorem TwoAt.grown {w w' : World} {g : Nat} {x y : Value} (h : TwoAt w g x y) {r : Option Nat} (k : w.grownBy w' r) (hne : some g ≠ r) : TwoAt w' g x y :=
 ⟨grown_cell k h.c0 h.lt hne, grown_cell k h.c1 h.lt hne, grown_frozen k h.f0 h.lt hne, grown_frozen k h.f1 h.lt hne, Nat.lt_of_lt_of_le h.lt k.size⟩
theorem TwoAt.setFar {w : World} {g : Nat} {x y : Value} (h : TwoAt w g x y) (p : Addr) (u : Value) (hp : p.block ≠ g) : TwoAt (w.setCell p u) g x y := by
 obtain ⟨c0, c1, f0, f1, lt⟩ := h
 refine ⟨?_, ?_, ?_, ?_, by simpa using lt⟩
 ·rw [World.cell?_setCell_far _ _ _ _ (by simpa using hp)]; exact c0
 ·rw [World.cell?_setCell_far _ _ _ _ (by simpa using hp)]; exact c1
 ·rw [World.frozen?_setCell]; exact f0
 ·rw [World.frozen?_setCell]; exact f1
theorem TwoAt.set0 {w : World} {g : Nat} {x y : Value} (h : TwoAt w g x y) (u : Value) : TwoAt (w.setCell ⟨g, 0, none⟩ u) g u y := by
 obtain ⟨c0, c1, f0, f1, lt⟩ := h
 exact ⟨by simp [go_sem, *], by simp [go_sem, *], by simp [go_sem, *], by simp [go_sem, *], by simpa using lt⟩
theorem TwoAt.set1 {w : World} {g : Nat} {x y : Value} (h : TwoAt w g x y) (u : Value) : TwoAt (w.setCell ⟨g, 1, none⟩ u) g x u := by
 obtain ⟨c0, c1, f0, f1, lt⟩ := h
 exact ⟨by simp [go_sem, *], by simp [go_sem, *], by simp [go_sem, *], by simp [go_sem, *], by simpa using lt⟩
theorem Rd.grown {w w' : World} {b m : Nat} {ad : Option Addr} {T : List Tok} {cap : Nat} {q : St} (h : Rd w b m ad T cap q) {r : Option Nat} (k : w.grownBy w' r) (hb : some b ≠ r) (hm : some m ≠ r) (ha : ∀ a, ad = some a -> some a.block ≠ r) : Rd w' b m ad T cap q := by
 refine ⟨grown_cell k h.c0 h.lt hb, grown_cell k h.c1 h.lt hb, grown_cell k h.c2 h.lt hb, grown_cell k h.c3 h.lt hb, grown_frozen k h.f1 h.lt hb, grown_frozen k h.f2 h.lt hb, Nat.lt_of_lt_of_le h.lt k.size, ?_, fun a e => ⟨(h.na a e).1, Nat.lt_of_lt_of_le (h.na a e).2 k.size⟩, World.ownsMap.kept h.mp k hm, h.nm⟩
 intro j hj
 obtain ⟨tb, off, e, hl, h1, h2, h3⟩ := h.ts j hj
 have hne := ha _ e
 exact ⟨tb, off, e, Nat.lt_of_lt_of_le hl k.size, grown_cell k h1 hl hne, grown_cell k h2 hl hne, grown_cell k h3 hl hne⟩

/- where the loop stands -/
structure DfI (w : World) (b m : Nat) (ad : Option Addr) (T : List Tok) (cap : Nat) (nm : ByteArray) (F : St × List Stp) (wr : World) (q : St) (L : List Stp) (a : Option Addr) (c f : Nat) : Prop where
 rd : Rd wr b m ad T cap q
 re : TwoAt wr w.heap.size (.string ⟨#[]⟩) (.slice none 0 0)
 dd : TwoAt wr (w.heap.size + 1) (.string nm) (.slice a L.length c)
 own : wr.ownsRow (w.heap.size + 2) 94 7 (.slice a L.length c) L.length (L.flatMap stpC)
 gb : GB b w wr
 lq : q.i < T.length
 le : L.length <= T.length + 1
 lo : q.s = false -> L.length <= q.i
 f0 : 0 < f
 fu : q.s = false -> T.length - q.i + 1 < f
 eq : lopS T f q L = F

def DfR (w : World) (b m : Nat) (ad : Option Addr) (T : List Tok) (cap : Nat) (nm : ByteArray) (F : St × List Stp) (e : Ending) (w' : World) : Prop :=
 ∃ a c, e = .returned (.agg #[.string nm, .slice a F.2.length c]) /\ StpsAt w' a F.2 /\ Rd w' b m ad T cap F.1 /\ GB b w w' /\ F.2.length <= c /\ F.2.length <= T.length + 1 /\ F.1.i < T.length /\ (∀ x, a = some x -> w.heap.size <= x.block)

theorem df_done {w : World} {b m : Nat} {ad : Option Addr} {T : List Tok} {cap : Nat} {nm : ByteArray} {wr : World} {q q0 : St} {L : List Stp} {a : Option Addr} {c : Nat} {F : St × List Stp} (h0 : Rd w b m ad T cap q0) (hr : Rd wr b m ad T cap q)
  (own : wr.ownsRow (w.heap.size + 2) 94 7 (.slice a L.length c) L.length (L.flatMap stpC)) (gb : GB b w wr) (lq : q.i < T.length) (le : L.length <= T.length + 1) (hF : F = (q, L)) (u v : Value) :
  DfR w b m ad T cap nm F (.returned (.agg #[.string nm, .slice a L.length c])) ((wr.setCell ⟨w.heap.size, 0, none⟩ u).setCell ⟨w.heap.size, 1, none⟩ v) := by
 subst hF
 obtain ⟨a', c', e, hc, _, hs, ha, _⟩ := own_row own
 cases e
 refine ⟨a, c, rfl, ?_, ?_, ?_, hc, le, lq, fun x e => by have := ha x e; omega⟩
 ·exact (hs.setFar _ _ (fun x e => by have := ha x e; simp; omega)).setFar _ _ (fun x e => by have := ha x e; simp; omega)
 ·exact (hr.setTop h0 _ _ (by simp)).setTop h0 _ _ (by simp)
 ·exact GB.setNew (GB.setNew gb ⟨w.heap.size, 0, none⟩ _ (Or.inl (by simp))) ⟨w.heap.size, 1, none⟩ _ (Or.inl (by simp))
theorem keepC {a b : World} {p : Addr} {x : Value} (h : a.cell? p = some x) (g : Gr a b) : b.cell? p = some x := g.keep h

theorem stp_lit1 (w : World) (x : Stp) (t : TypeId) : ∀ j u, ([x].flatMap stpC)[j]? = some u -> (w.alloc (.cells #[.int .i64 x.k, .string x.a, .int .i64 x.n, .int .i64 x.o, .string x.u, .int .i64 x.y, .int .i64 x.v] t)).cell? ((⟨w.heap.size, 0, none⟩ : Addr).add j) = some u := by
 intro j u hu
 have hj : j < 7 := by
  have := (List.getElem?_eq_some_iff.1 hu).1
  simpa [stpC] using this
 rw [Addr.add_lit]
 match j, hj with
 | 0, _ => simp [stpC] at hu; subst hu; simp
 | 1, _ => simp [stpC] at hu; subst hu; simp
 | 2, _ => simp [stpC] at hu; subst hu; simp
 | 3, _ => simp [stpC] at hu; subst hu; simp
 | 4, _ => simp [stpC] at hu; subst hu; simp
 | 5, _ => simp [stpC] at hu; subst hu; simp
 | 6, _ => simp [stpC] at hu; subst hu; simp
theorem stpV_app (L M : List Stp) : (L ++ M).flatMap stpC = L.flatMap stpC ++ M.flatMap stpC := by simp

theorem dDef_any (b m : Nat) (ad : Option Addr) (T : List Tok) (cap : Nat) (i : Nat) (w : World) (h : Rd w b m ad T cap ⟨i, false⟩) (hT : Gd T) (hi : i < T.length) (hn : T.length <= 5000) :
  Calls Tryz.prog 134 #[.pointer (some ⟨b, 0, none⟩)] w fun e w' => DfR w b m ad T cap (defN T i) (defR T i) e w' := by
 obtain ⟨i0, hi0, hz0, hz1, hz2⟩ := info_parts3 infoStp
 have l1 := must_lt hT (q := ⟨i, false⟩) 1 Df.wSaga (by decide) hi
 have l2 := take_lt hT 1 (by decide) l1
 have l3 := must_lt hT 3 Df.gOpen (by decide) l2
 have H1 : Hid (∀ w', Rd w' b m ad T cap ⟨i, false⟩ -> Calls Tryz.prog 158 #[.pointer (some ⟨b, 0, none⟩), .int .i64 1, .string ⟨#[115, 97, 103, 97]⟩] w' fun e w2 => e = .returned (.tuple #[]) /\ Rd w2 b m ad T cap (mustS T ⟨i, false⟩ 1 Df.wSaga) /\ GB b w' w2) := fun w' h' => dMust_any b m ad T cap _ 1 Df.wSaga w' h' hi hn
 have H2 : Hid (∀ w', Rd w' b m ad T cap (mustS T ⟨i, false⟩ 1 Df.wSaga) -> Calls Tryz.prog 159 #[.pointer (some ⟨b, 0, none⟩), .int .i64 1] w' fun e w2 => e = .returned (.string (defN T i)) /\ Rd w2 b m ad T cap (Df.takeS T (mustS T ⟨i, false⟩ 1 Df.wSaga) 1) /\ GB b w' w2) := fun w' h' => dTake_any b m ad T cap _ 1 w' h' hT l1 hn
 have H3 : Hid (∀ w', Rd w' b m ad T cap (Df.takeS T (mustS T ⟨i, false⟩ 1 Df.wSaga) 1) -> Calls Tryz.prog 158 #[.pointer (some ⟨b, 0, none⟩), .int .i64 3, .string ⟨#[123]⟩] w' fun e w2 => e = .returned (.tuple #[]) /\ Rd w2 b m ad T cap (defQ T i) /\ GB b w' w2) := fun w' h' => dMust_any b m ad T cap _ 3 Df.gOpen w' h' l2 hn
 have H4 : Hid (∀ (q : St) (w' : World), q.i < T.length -> Rd w' b m ad T cap q -> Calls Tryz.prog 160 #[.pointer (some ⟨b, 0, none⟩), .int .i64 3, .string ⟨#[125]⟩] w' fun e w2 => e = .returned (.bool (passB T q 3 Df.gShut)) /\ Rd w2 b m ad T cap (passS T q 3 Df.gShut) /\ GB b w' w2) := fun q w' hq h' => dPass_any b m ad T cap q 3 Df.gShut w' h' hq hn
 have H5 : Hid (∀ (q : St) (w' : World), q.i < T.length -> Rd w' b m ad T cap q -> Calls Tryz.prog 161 #[.pointer (some ⟨b, 0, none⟩)] w' fun e w2 => e = .returned (.agg #[.int .i64 (stpV T q).k, .string (stpV T q).a, .int .i64 (stpV T q).n, .int .i64 (stpV T q).o, .string (stpV T q).u, .int .i64 (stpV T q).y, .int .i64 (stpV T q).v]) /\ Rd w2 b m ad T cap (stpS T q) /\ GB b w' w2) := fun q w' hq h' => dStep_any b m ad T cap q w' h' hT hq hn
 have HT : Hid (Gd T) := hT
 have HRT : Hid (Rd w b m ad T cap ⟨i, false⟩) := h
 have hbl : b < w.heap.size := h.lt
 have HA0 : Hid (TwoAt ((w.alloc (.cells #[.string ⟨#[]⟩, .slice none 0 0] 27)).alloc (.cells #[.string ⟨#[]⟩, .slice none 0 0] 27)) w.heap.size (.string ⟨#[]⟩) (.slice none 0 0)) := (TwoAt.new w _ _ 27 _ rfl).gr (Gr.refl _).alloc
 have HB0 : Hid (TwoAt ((w.alloc (.cells #[.string ⟨#[]⟩, .slice none 0 0] 27)).alloc (.cells #[.string ⟨#[]⟩, .slice none 0 0] 27)) (w.heap.size + 1) (.string ⟨#[]⟩) (.slice none 0 0)) := TwoAt.new _ _ _ 27 _ (by simp)
 have HR0 : Hid (Rd ((w.alloc (.cells #[.string ⟨#[]⟩, .slice none 0 0] 27)).alloc (.cells #[.string ⟨#[]⟩, .slice none 0 0] 27)) b m ad T cap ⟨i, false⟩) := (h.gr (Gr.refl _).alloc).gr (Gr.refl _).alloc
 have HG0 : Hid (GB b w ((w.alloc (.cells #[.string ⟨#[]⟩, .slice none 0 0] 27)).alloc (.cells #[.string ⟨#[]⟩, .slice none 0 0] 27))) := ((GB.refl b w).alloc).alloc
 have HQ : Hid (defR T i = lopS T (T.length + 2) (defQ T i) []) := rfl
 have l3' : (defQ T i).i < T.length := l3
 generalize defN T i = NM at *
 generalize defR T i = F at *
 generalize defQ T i = q3 at *
 generalize Df.takeS T (mustS T ⟨i, false⟩ 1 Df.wSaga) 1 = q2 at *
 generalize mustS T ⟨i, false⟩ 1 Df.wSaga = q1 at *
 clear h hT l1 l2 l3
 go_enter Tryz.func134, Tryz.ntmps134
 go_wp2_with fail
 refine (H1.out _ HR0.out).mono ?_
 rintro e w1 ⟨rfl, hr, hg⟩
 have HR1 := Lib.hid hr
 have HG1 := Lib.hid (HG0.out.trans hg)
 have HA1 := Lib.hid (HA0.out.grown hg.g (by simp; omega))
 have HB1 := Lib.hid (HB0.out.grown hg.g (by simp; omega))
 clear hr hg
 go_wp2_with fail
 refine (H2.out _ HR1.out).mono ?_
 rintro e w2 ⟨rfl, hr, hg⟩
 have HB2a := HB1.out.grown hg.g (by simp; omega)
 have HR2 := Lib.hid (hr.setTop HRT.out ⟨w.heap.size + 1, 0, none⟩ (.string NM) (by simp))
 have HG2 := Lib.hid (GB.setNew (HG1.out.trans hg) ⟨w.heap.size + 1, 0, none⟩ (.string NM) (Or.inl (by simp)))
 have HA2 := Lib.hid ((HA1.out.grown hg.g (by simp; omega)).setFar ⟨w.heap.size + 1, 0, none⟩ (.string NM) (by simp))
 have HB2 := Lib.hid (HB2a.set0 (.string NM))
 obtain ⟨b0, b1, f0, f1, bl⟩ := HB2a
 clear hr hg
 go_wp2_with fail
 refine (H3.out _ HR2.out).mono ?_
 rintro e w3 ⟨rfl, hr, hg⟩
 have HI0 : Hid (DfI w b m ad T cap NM F w3 q3 [] none 0 (T.length + 2)) := ⟨hr, HA2.out.grown hg.g (by simp; omega), HB2.out.grown hg.g (by simp; omega), World.ownsRow_nil _ _ _ _, HG2.out.trans hg, l3', by simp, fun _ => by simp, by omega, fun _ => by omega, HQ.out.symm⟩
 clear hr hg b0 b1 f0 f1 bl HR0 HR1 HR2 HG0 HG1 HG2 HA0 HA1 HA2 HB0 HB1 HB2 H1 H2 H3 HQ
 go_wp2
 go_loopw [29] (fun _ wr => ∃ (q : St) (L : List Stp) (a : Option Addr) (c f : Nat), DfI w b m ad T cap NM F wr q L a c f) (fun _ wr => boolCell (wr.cell? ⟨b, 2, none⟩) * (T.length + 1 - intCell (wr.cell? ⟨b, 1, none⟩)))
 case atStart => exact ⟨_, _, _, _, _, HI0.out⟩
 case round =>
  obtain ⟨q, L, a, c, f, hI⟩ := hrel
  have HI := Lib.hid hI
  obtain ⟨c0, c1, c2, c3, _, _, lt, _, _, _, _⟩ := hI.rd
  obtain ⟨i, st⟩ := q
  simp only at c1 c2
  clear hI HI0
  cases st with
  | true =>
   have HF : Hid (F = (⟨i, true⟩, L)) := by
    have h1 := HI.out.eq
    have h2 := HI.out.f0
    obtain ⟨f', rfl⟩ : ∃ f', f = f' + 1 := ⟨f - 1, by omega⟩
    rw [Df.lop_stuck] at h1
    exact h1.symm
   obtain ⟨a0, a1, af0, af1, al⟩ := HI.out.re
   obtain ⟨d0, d1, df0, df1, dl⟩ := HI.out.dd
   go_wp2
   refine bodyPost_ret (v := .agg #[.string NM, .slice a L.length c]) (by simp [results, Tryz.results134, go_sem, *]) rfl ?_
   exact df_done HRT.out HI.out.rd HI.out.own HI.out.gb HI.out.lq HI.out.le HF.out _ _
  | false =>
   go_wp2_with fail
   refine (H4.out ⟨i, false⟩ _ HI.out.lq HI.out.rd).mono ?_
   rintro e w1 ⟨rfl, hr, hg⟩
   rw [Df.pass_open]
   have HG1 := Lib.hid (HI.out.gb.trans hg)
   have HA1 := Lib.hid (HI.out.re.grown hg.g (by simp; omega))
   have HB1 := Lib.hid (HI.out.dd.grown hg.g (by simp; omega))
   have HO1 := Lib.hid (HI.out.own.kept hg.g (Or.inr (fun e => by have := (HI.out.own.lt _ e).1; omega)))
   obtain ⟨f', hf'⟩ : ∃ f', f = f' + 1 := ⟨f - 1, by have := HI.out.f0; omega⟩
   have HE : Hid (F = if isT (tk T i) 3 Df.gShut = true then (⟨i + 1, false⟩, L) else lopS T f' (stpS T ⟨i, false⟩) (L ++ [stpV T ⟨i, false⟩])) := by
    have h1 := HI.out.eq
    rw [hf', Df.lop_open] at h1
    exact h1.symm
   cases hs : isT (tk T i) 3 Df.gShut with
   | true =>
    have HF : Hid (F = (⟨i + 1, false⟩, L)) := by have := HE.out; rw [hs, if_pos rfl] at this; exact this
    rw [Df.pass_yes hs] at hr
    have HR1 := Lib.hid hr
    have HLQ : Hid (i + 1 < T.length) := HT.out.next (by rw [((Df.isT_iff _ _ _).1 hs).1]; decide)
    obtain ⟨a0, a1, af0, af1, al⟩ := HA1.out
    obtain ⟨d0, d1, df0, df1, dl⟩ := HB1.out
    clear hr hg hs HE
    go_wp2
    refine bodyPost_ret (v := .agg #[.string NM, .slice a L.length c]) (by simp [results, Tryz.results134, go_sem, *]) rfl ?_
    exact df_done HRT.out HR1.out HO1.out HG1.out HLQ.out HI.out.le HF.out _ _
   | false =>
    have HF : Hid (F = lopS T f' (stpS T ⟨i, false⟩) (L ++ [stpV T ⟨i, false⟩])) := by have := HE.out; rw [hs, if_neg (by decide)] at this; exact this
    have hps : passS T ⟨i, false⟩ 3 Df.gShut = ⟨i, false⟩ := by unfold Df.passS; rw [Df.pass_open, hs]; rfl
    rw [hps] at hr
    have HR1 := Lib.hid hr
    clear hr hg hs HE hps c0 c1 c2 c3 lt
    obtain ⟨g1, g2⟩ := Df.stp_le HT.out i HI.out.lq
    have HL2 : Hid ((stpS T ⟨i, false⟩).i < T.length /\ ((stpS T ⟨i, false⟩).s = true ∨ i < (stpS T ⟨i, false⟩).i)) := ⟨g1, g2⟩
    clear g1 g2
    have HLL : Hid (L.length <= i /\ i < T.length /\ T.length - i + 1 < f) := ⟨HI.out.lo rfl, HI.out.lq, HI.out.fu rfl⟩
    have hll : L.length <= 5000 := by have := HLL.out; omega
    have H5' : Hid (∀ w', Rd w' b m ad T cap ⟨i, false⟩ -> Calls Tryz.prog 161 #[.pointer (some ⟨b, 0, none⟩)] w' fun e w2 => e = .returned (.agg #[.int .i64 (stpV T ⟨i, false⟩).k, .string (stpV T ⟨i, false⟩).a, .int .i64 (stpV T ⟨i, false⟩).n, .int .i64 (stpV T ⟨i, false⟩).o, .string (stpV T ⟨i, false⟩).u, .int .i64 (stpV T ⟨i, false⟩).y, .int .i64 (stpV T ⟨i, false⟩).v]) /\ Rd w2 b m ad T cap (stpS T ⟨i, false⟩) /\ GB b w' w2) := fun w' h' => H5.out ⟨i, false⟩ w' HI.out.lq h'
    generalize stpV T ⟨i, false⟩ = SV at *
    generalize stpS T ⟨i, false⟩ = SS at *
    have hk := HB1.out.c1
    have HM0 : Hid (boolCell (wr.cell? ⟨b, 2, none⟩) * (T.length + 1 - intCell (wr.cell? ⟨b, 1, none⟩)) = T.length + 1 - i) := by
     show _ = _
     rw [HI.out.rd.c2, HI.out.rd.c1]; simp [boolCell, intCell]
    go_upto_region 6 with fail
    have hkd : w1.drew.cell? ⟨w.heap.size + 1, 1, none⟩ = some (.slice a L.length c) := hk
    refine beginL 7 (fun w' => w'.cell? ⟨w.heap.size + 1, 1, none⟩ = some (.slice a L.length c)) (by kernel_rfl) (by first | with_reducible exact hkd | with_reducible exact hk2 | with_reducible exact keepC hk2 (Gr.refl _).alloc | with_reducible exact hk6) (fun hHeld => ?_)
    refine takeW 0 30 (v := ?_) rfl rfl (by decide) (by kernel_rfl) (by kernel_rfl) (by kernel_rfl) (fun _ _ _ h => h) (by rfl) ?_ (fun _ => hHeld) ?_
    rotate_left
    ·(intro w; (try intro hSw); (try dsimp only at hSw); go_simp; try with_reducible rfl)
    simp only [Act.put, List.setIfInBounds_toArray, List.set_cons_zero, List.set_cons_succ]
    refine takeW 2 32 (v := ?_) rfl rfl (by decide) (by kernel_rfl) (by kernel_rfl) (by kernel_rfl) (fun _ _ _ h => h) (by rfl) ?_ (fun _ => hHeld) ?_
    rotate_left
    ·(intro w; (try intro hSw); (try dsimp only at hSw); go_simp; try with_reducible rfl)
    simp only [Act.put, List.setIfInBounds_toArray, List.set_cons_zero, List.set_cons_succ]
    refine takeS 1 31 (v := ?_) rfl rfl (by decide) (by kernel_rfl) (by kernel_rfl) (by kernel_rfl) (by kernel_rfl) (by kernel_rfl) (fun _ _ _ h => h) (by rfl) ?_ hHeld ?_
    rotate_left
    ·(intro w; (try intro hSw); (try dsimp only at hSw); go_simp; try with_reducible rfl)
    simp only [Act.put, List.setIfInBounds_toArray, List.set_cons_zero, List.set_cons_succ]
    refine stepC 3 (by kernel_rfl) rfl (fun K hK => ?_)
    go_simp
    refine (H5'.out _ (HR1.out.gr (Gr.refl _).drew)).mono ?_; rintro e w2 ⟨rfl, hr, hg⟩; have hk2 : w2.cell? ⟨w.heap.size + 1, 1, none⟩ = some (.slice a L.length c) := hg.keep HB1.out.lt (by omega) hkd
    (try go_wp2_with fail)
    refine hK.out _ _ (by first | with_reducible exact hkd | with_reducible exact hk2 | with_reducible exact keepC hk2 (Gr.refl _).alloc | with_reducible exact hk6) (fun hHeldN => ?_)
    clear hHeld hK K
    have hHeld := hHeldN
    clear hHeldN
    have HR2 := Lib.hid hr
    have HG2 := Lib.hid (HG1.out.drew.trans hg)
    have HA2 := Lib.hid ((HA1.out.gr (Gr.refl _).drew).grown hg.g (by simp; omega))
    have HB2 := Lib.hid ((HB1.out.gr (Gr.refl _).drew).grown hg.g (by simp; omega))
    have HO2 := Lib.hid (World.ownsRow.kept (w := w1.drew) HO1.out hg.g (Or.inr (fun e => by have := (HO1.out.lt _ e).1; omega)))
    clear hr hg hkd hk HR1 HG1 HA1 HB1 HO1
    refine stepC 4 (by kernel_rfl) rfl (fun K hK => ?_)
    go_simp
    refine hK.out _ _ (by first | with_reducible exact hkd | with_reducible exact hk2 | with_reducible exact keepC hk2 (Gr.refl _).alloc | with_reducible exact hk6) (fun hHeldN => ?_)
    clear hHeld hK K
    have hHeld := hHeldN
    clear hHeldN
    have HO4 : Hid (World.ownsRow (w2.alloc (.cells #[.int .i64 SV.k, .string SV.a, .int .i64 SV.n, .int .i64 SV.o, .string SV.u, .int .i64 SV.y, .int .i64 SV.v] 94)) (w.heap.size + 2) 94 7 (.slice a L.length c) L.length (L.flatMap stpC)) := HO2.out.kept (grown_gr none (Gr.refl _).alloc) (own_or _)
    have HN4 := Lib.hid (stp_lit1 w2 SV 94)
    have hwz : w.heap.size + 2 <= (w2.alloc (.cells #[.int .i64 SV.k, .string SV.a, .int .i64 SV.n, .int .i64 SV.o, .string SV.u, .int .i64 SV.y, .int .i64 SV.v] 94)).heap.size := by have := HB2.out.lt; simp; omega
    have bne : ∀ {v : Value} {wx : World} {n : Nat} {xs : List Value}, wx.ownsRow (w.heap.size + 2) 94 7 v n xs -> ∀ i, i <= w.heap.size + 1 -> some i ≠ v.ownBlock := fun h i hi e => by have := (h.lt _ e.symm).1; omega
    refine stepC 5 (by kernel_rfl) rfl (fun K hK => ?_)
    (refine step_append_own (by rfl) _ _ 25 (by rfl) (w.heap.size + 2) 94 i0 (.agg #[.int .i64 0, .string ⟨#[]⟩, .int .i64 0, .int .i64 0, .string ⟨#[]⟩, .int .i64 0, .int .i64 0]) 7 72 Tryz.underlying25 hi0 hz0 hz1 hz2 rfl (by decide) _ _ _ (by rfl) HO4.out ⟨w2.heap.size, 0, none⟩ 1 1 ([SV].flatMap stpC) (by rfl) (by rfl) HN4.out (stp_one _) (by unfold maxLen; omega) (by omega) hwz ?_; intro v6 w6 ho6 hgr6 hn6; have hk6 : w6.cell? ⟨w.heap.size + 1, 1, none⟩ = some (.slice a L.length c) := hgr6.cell (keepC hk2 (Gr.refl _).alloc) (bne HO4.out _ (by simp)))
    refine hK.out (Act.put _ (some 35) v6) _ (by first | with_reducible exact hkd | with_reducible exact hk2 | with_reducible exact keepC hk2 (Gr.refl _).alloc | with_reducible exact hk6) (fun hHeldN => ?_)
    clear hHeld hK K
    have hHeld := hHeldN
    clear hHeldN
    simp only [Act.put, List.setIfInBounds_toArray, List.set_cons_zero, List.set_cons_succ]
    have ho6' : w6.ownsRow (w.heap.size + 2) 94 7 v6 (L ++ [SV]).length ((L ++ [SV]).flatMap stpC) := by rw [List.length_append, stpV_app]; exact ho6
    obtain ⟨a6, c6, rfl, hc6, _⟩ := own_row ho6'
    have HO6 := Lib.hid ho6'
    have HB6 := Lib.hid ((HB2.out.gr (Gr.refl _).alloc).grown hgr6 (bne HO4.out _ (by simp)))
    have HA6 := Lib.hid ((HA2.out.gr (Gr.refl _).alloc).grown hgr6 (bne HO4.out _ (by simp)))
    have HR6 : Hid (Rd w6 b m ad T cap SS) := (HR2.out.gr (Gr.refl _).alloc).grown hgr6 (bne HO4.out _ (by omega)) (bne HO4.out _ (by have := HRT.out.mp.lt; omega)) (fun x e => bne HO4.out _ (by have := (HRT.out.na x e).2; omega))
    have HG6 : Hid (GB b w w6) := ⟨grown_other HG2.out.alloc.g hgr6 (fun g e => by have := (HO4.out.lt g e).1; omega)⟩
    clear ho6 hgr6 hn6 ho6' HO4 HN4 hwz HO2 HB2 HA2 HR2 HG2
    obtain ⟨d0, d1, df0, df1, dl⟩ := HB6.out
    refine takeW 6 36 (v := ?_) rfl rfl (by decide) (by kernel_rfl) (by kernel_rfl) (by kernel_rfl) (fun _ _ _ h => h) (by rfl) ?_ (fun _ => hHeld) ?_
    rotate_left
    ·(intro w; (try intro hSw); (try dsimp only at hSw); go_simp; try with_reducible rfl)
    simp only [Act.put, List.setIfInBounds_toArray, List.set_cons_zero, List.set_cons_succ]
    refine stepS (by kernel_rfl) rfl (by kernel_rfl) (fun K hK => ?_)
    go_simp
    refine hK.out _ _ ?_
    clear hHeld hK K
    refine doneL (by kernel_rfl) ?_ _
    have HI7 : Hid (DfI w b m ad T cap NM F (w6.setCell ⟨w.heap.size + 1, 1, none⟩ (.slice a6 (L.length + 1) c6)) SS (L ++ [SV]) a6 c6 f') := by
     rw [show L.length + 1 = (L ++ [SV]).length by simp]
     refine ⟨HR6.out.setTop HRT.out _ _ (by simp), HA6.out.setFar _ _ (by simp), HB6.out.set1 _, own_far HO6.out _ _ (fun e => bne HO6.out _ (Nat.le_refl _) e.symm), GB.setNew HG6.out ⟨w.heap.size + 1, 1, none⟩ _ (Or.inl (by simp)), HL2.out.1, ?_, ?_, ?_, ?_, HF.out.symm⟩
     ·have := HLL.out; rw [List.length_append, List.length_singleton]; omega
     ·intro e
      rcases HL2.out.2 with h | h
      ·rw [e] at h; cases h
      ·have := HLL.out; rw [List.length_append, List.length_singleton]; omega
     ·have := HLL.out; omega
     ·intro e
      rcases HL2.out.2 with h | h
      ·rw [e] at h; cases h
      ·have := HLL.out; have := HL2.out.1; omega
    go_wp2
    go_roundw
    case rel => exact ⟨_, _, _, _, _, HI7.out⟩
    case measure =>
     rw [HM0.out, HI7.out.rd.c2, HI7.out.rd.c1]
     have h1 := HLL.out
     have h2 := HL2.out
     obtain ⟨si, ss⟩ := SS
     simp only at h2
     cases ss with
     | true => simp [boolCell]; omega
     | false =>
      rcases h2.2 with h | h
      ·cases h
      ·simp [boolCell, intCell]; omega
end Go.Proofs.YthaadiclopoamaaGreatDoor
/- def: Check, Same. -/
set_option maxRecDepth 100000
set_option maxHeartbeats 8000000
namespace Go.Proofs.YthaadiclopoamaaGreatDoor
open Go.RowKit
open Df (Stp ownB askB stpB defB chE)
open _root_.Go.Proofs.YthaadiclopoamaaGreatDoor.Act (nameB)

theorem def_nidx {nm : ByteArray} {L : List Stp} (j : Nat) (h : j < L.length) (hb : stpB L[j] = false) : defB nm L = false := by
 unfold Df.defB
 have : L.all stpB = false := by
  rw [List.all_eq_false]
  exact ⟨_, List.getElem_mem h, by rw [hb]; simp⟩
 rw [this]; simp
theorem def_idx {nm : ByteArray} {L : List Stp} (h0 : nameB nm = true) (h1 : 1 <= L.length) (h8 : L.length <= 8) (h : ∀ j (hj : j < L.length), stpB L[j] = true) : defB nm L = true := by
 refine (Df.def_iff nm L).2 ⟨h0, h1, h8, fun s hs => ?_⟩
 obtain ⟨j, hj, rfl⟩ := List.getElem_of_mem hs
 exact h j hj

theorem dCheck_any (nm : ByteArray) (L : List Stp) (ad : Option Addr) (cap : Nat) (w : World) (hL : StpsAt w ad L) (hs : nm.size <= 9223372036854775807) (hn : L.length <= 9223372036854775807) (hz : ∀ s ∈ L, inS s) :
  Calls Tryz.prog 62 #[.agg #[.string nm, .slice ad L.length cap]] w fun e w' => e = .returned (.int .i64 (chE nm L)) /\ Gr w w' := by
 have HN : Hid (∀ w', Calls Tryz.prog 60 #[.string nm] w' fun e w2 => e = .returned (.bool (nameB nm)) /\ w2 = w') := fun w' => name_any nm w' hs
 have HW : Hid (∀ w', Calls Tryz.prog 86 #[.int .i64 (L.length : Int), .int .i64 1, .int .i64 8] w' fun e w2 => e = .returned (.bool (decide ((1 : Int) <= (L.length : Int)) && decide ((L.length : Int) <= 8))) /\ w2 = w') := fun w' => within_any _ 1 8 w'
 have HO : Hid (∀ (j : Nat) (h : j < L.length) (w' : World), Calls Tryz.prog 87 #[.agg #[.int .i64 L[j].k, .string L[j].a, .int .i64 L[j].n, .int .i64 L[j].o, .string L[j].u, .int .i64 L[j].y, .int .i64 L[j].v]] w' fun e w2 => e = .returned (.bool (ownB L[j])) /\ Gr w' w2) := fun j h w' => isOwn_any L[j] w' (hz _ (List.getElem_mem h))
 have HA : Hid (∀ (j : Nat) (h : j < L.length) (w' : World), Calls Tryz.prog 88 #[.agg #[.int .i64 L[j].k, .string L[j].a, .int .i64 L[j].n, .int .i64 L[j].o, .string L[j].u, .int .i64 L[j].y, .int .i64 L[j].v]] w' fun e w2 => e = .returned (.bool (askB L[j])) /\ Gr w' w2) := fun j h w' => asks_any L[j] w' (hz _ (List.getElem_mem h))
 have HL : Hid (StpsAt w ad L) := hL
 cases hnb : nameB nm with
 | false =>
  have HF : Hid (chE nm L = 90) := Df.ch_no (by unfold Df.defB; rw [hnb]; rfl)
  rw [hnb] at HN
  clear hnb hL hz
  go_enter Tryz.func62, Tryz.ntmps62
  go_wp2_with fail
  refine (HN.out _).mono ?_
  rintro e w1 ⟨rfl, hw⟩; obtain rfl := hw.symm
  go_wp2
  go_ret
  exact ⟨by rw [HF.out]; rfl, (by repeat(first|exact Gr.r _|refine Gr.a ?_|refine Gr.d ?_|refine Gr.t ?_ (by assumption)))⟩
 | true =>
  by_cases hlen : 1 <= L.length /\ L.length <= 8
  ·rw [hnb] at HN
   rw [show (decide ((1 : Int) <= (L.length : Int)) && decide ((L.length : Int) <= 8)) = true by simp; omega] at HW
   have HY : Hid ((∀ j (hj : j < L.length), stpB L[j] = true) -> chE nm L = 0) := fun h => Df.ch_yes (def_idx hnb hlen.1 hlen.2 h)
   have HX : Hid (∀ j (hj : j < L.length), stpB L[j] = false -> chE nm L = 90) := fun j hj h => Df.ch_no (def_nidx j hj h)
   have HST : Hid (∀ j (hj : j < L.length), stpB L[j] = (ownB L[j] || askB L[j])) := fun j hj => rfl
   obtain ⟨l1, l8⟩ := hlen
   generalize chE nm L = CE at *
   clear hnb hL hz hs hn
   go_enter Tryz.func62, Tryz.ntmps62
   go_wp2_with fail
   refine (HN.out _).mono ?_
   rintro e w1 ⟨rfl, hw⟩; obtain rfl := hw.symm
   go_wp2_with fail
   refine (HW.out _).mono ?_
   rintro e w1 ⟨rfl, hw⟩; obtain rfl := hw.symm
   have HG0 : Hid (Gr w (w.alloc (.cells #[.string nm, .slice ad L.length cap] 27))) := (Gr.refl _).alloc
   go_wp2
   go_loopw [19] (fun i wr => ∃ k : Nat, k <= L.length /\ i = .int .i64 (k : Int) /\ Gr w wr /\ ∀ j (hj : j < L.length), j < k -> stpB L[j] = true) (fun i _ => L.length - (intOf i).toNat)
   case atStart => exact ⟨0, by omega, rfl, HG0.out, fun j _ h => absurd h (by omega)⟩
   case round =>
    obtain ⟨k, hk, rfl, hg, hP⟩ := hrel
    have HG : Hid (Gr w wr) := hg
    have HP : Hid (∀ j (hj : j < L.length), j < k -> stpB L[j] = true) := hP
    clear hg hP
    by_cases hlt : k < L.length
    ·obtain ⟨b, off, rfl, hb, x0, x1, x2, x3, x4, x5, x6⟩ := StpsAt.at (HL.out.gr HG.out) k hlt
     have HB0 := Lib.hid (AccAt.new wr (.int .i64 L[k].k) (.string L[k].a) (.int .i64 L[k].n) (.int .i64 L[k].o) (.string L[k].u) (.int .i64 L[k].y) (.int .i64 L[k].v) 94 _ rfl)
     have HOk : Hid (∀ w', Calls Tryz.prog 87 #[.agg #[.int .i64 L[k].k, .string L[k].a, .int .i64 L[k].n, .int .i64 L[k].o, .string L[k].u, .int .i64 L[k].y, .int .i64 L[k].v]] w' fun e w2 => e = .returned (.bool (ownB L[k])) /\ Gr w' w2) := HO.out k hlt
     have HAk : Hid (∀ w', Calls Tryz.prog 88 #[.agg #[.int .i64 L[k].k, .string L[k].a, .int .i64 L[k].n, .int .i64 L[k].o, .string L[k].u, .int .i64 L[k].y, .int .i64 L[k].v]] w' fun e w2 => e = .returned (.bool (askB L[k])) /\ Gr w' w2) := HA.out k hlt
     have HSk := Lib.hid (HST.out k hlt)
     have HXk := Lib.hid (HX.out k hlt)
     generalize hSB : stpB L[k] = SB at *
     have HSB : Hid (∀ _h : k < L.length, stpB L[k] = SB) := fun _ => hSB
     clear hSB
     generalize ownB L[k] = OB at *
     generalize askB L[k] = AB at *
     generalize L[k].k = a0 at *
     generalize L[k].a = a1 at *
     generalize L[k].n = a2 at *
     generalize L[k].o = a3 at *
     generalize L[k].u = a4 at *
     generalize L[k].y = a5 at *
     generalize L[k].v = a6 at *
     go_wp2_with fail
     refine (HOk.out _).mono ?_
     rintro e w2 ⟨rfl, hg2⟩
     have HG2 : Hid (Gr w w2) := HG.out.trans ((Gr.refl _).alloc.trans hg2)
     obtain ⟨y0, y1, y2, y3, y4, y5, y6⟩ := (HB0.out.gr hg2).cells
     have yl := (HB0.out.gr hg2).lt
     clear hg2 x0 x1 x2 x3 x4 x5 x6
     cases OB with
     | true =>
      have HT : Hid (SB = true) := HSk.out
      go_wp2
      go_roundw
      case rel => exact ⟨k + 1, by omega, by go_num, HG2.out, fun j hj h => if e : j = k then by subst e; rw [HSB.out hj]; exact HT.out else HP.out j hj (by omega)⟩
      case measure => simp [intOf]; omega
     | false =>
      go_wp2_with fail
      refine (HAk.out _).mono ?_
      rintro e w3 ⟨rfl, hg3⟩
      have HG3 : Hid (Gr w w3) := HG2.out.trans hg3
      clear hg3
      cases AB with
      | true =>
       have HT : Hid (SB = true) := HSk.out
       go_wp2
       go_roundw
       case rel => exact ⟨k + 1, by omega, by go_num, HG3.out, fun j hj h => if e : j = k then by subst e; rw [HSB.out hj]; exact HT.out else HP.out j hj (by omega)⟩
       case measure => simp [intOf]; omega
      | false =>
       have HF : Hid (CE = 90) := HXk.out HSk.out
       go_wp2
       go_ret
       exact ⟨by rw [HF.out]; rfl, HG3.out⟩
    ·obtain rfl : k = L.length := by omega
     have HF : Hid (CE = 0) := HY.out (fun j hj => HP.out j hj hj)
     go_wp2
     go_ret
     exact ⟨by rw [HF.out]; rfl, HG.out⟩
  ·have HF : Hid (chE nm L = 90) := Df.ch_no (by
    cases hd : Df.defB nm L with
    | false => rfl
    | true => have := (Df.def_iff nm L).1 hd; exact absurd ⟨this.2.1, this.2.2.1⟩ hlen)
   rw [hnb] at HN
   rw [show (decide ((1 : Int) <= (L.length : Int)) && decide ((L.length : Int) <= 8)) = false by
    cases hq : (decide ((1 : Int) <= (L.length : Int)) && decide ((L.length : Int) <= 8)) with
    | false => rfl
    | true => simp only [Bool.and_eq_true, decide_eq_true_eq] at hq; exact absurd ⟨by omega, by omega⟩ hlen] at HW
   clear hnb hL hz hlen
   go_enter Tryz.func62, Tryz.ntmps62
   go_wp2_with fail
   refine (HN.out _).mono ?_
   rintro e w1 ⟨rfl, hw⟩; obtain rfl := hw.symm
   go_wp2_with fail
   refine (HW.out _).mono ?_
   rintro e w1 ⟨rfl, hw⟩; obtain rfl := hw.symm
   go_wp2
   go_ret
   exact ⟨by rw [HF.out]; rfl, (by repeat(first|exact Gr.r _|refine Gr.a ?_|refine Gr.d ?_|refine Gr.t ?_ (by assumption)))⟩

end Go.Proofs.YthaadiclopoamaaGreatDoor
/- Rows of cells in a block of their own: structs of any number of cells. -/
set_option maxRecDepth 100000
set_option maxHeartbeats 8000000
namespace Go.Proofs.YthaadiclopoamaaGreatDoor
open Go.RowKit

/- a block's first cells, which may be written -/
structure Cs (w : World) (g : Nat) (vs : List Value) : Prop where
 at_ : ∀ i v, vs[i]? = some v -> w.cell? ⟨g, i, none⟩ = some v
 fz : ∀ i, i < vs.length -> w.frozen? ⟨g, i, none⟩ = false
 lt : g < w.heap.size
theorem Cs.gr {w w' : World} {g : Nat} {vs : List Value} (h : Cs w g vs) (k : Gr w w') : Cs w' g vs :=
 ⟨fun i v e => k.keep (h.at_ i v e), fun i hi => k.keepF h.lt (h.fz i hi), Nat.lt_of_lt_of_le h.lt k.size⟩
theorem Cs.alloc {w : World} {g : Nat} {vs : List Value} (h : Cs w g vs) {o : Obj} : Cs (w.alloc o) g vs := h.gr (Gr.refl _).alloc
theorem Cs.drew {w : World} {g : Nat} {vs : List Value} (h : Cs w g vs) : Cs w.drew g vs := h.gr (Gr.refl _).drew
theorem Cs.new (w : World) (vs : List Value) (t : TypeId) (g : Nat) (hg : g = w.heap.size) : Cs (w.alloc (.cells vs.toArray t)) g vs := by
 refine ⟨fun i v e => ?_, fun i hi => ?_, by subst hg; simp⟩
 ·rw [World.cell?_alloc_at _ _ _ _ hg]; simpa using e
 ·exact World.frozen?_alloc_at _ _ _ _ hg
theorem Cs.far {w : World} {g : Nat} {vs : List Value} (h : Cs w g vs) (p : Addr) (v : Value) (hp : p.block ≠ g) : Cs (w.setCell p v) g vs :=
 ⟨fun i u e => (World.cell?_setCell_far _ _ _ _ (by simpa using hp)).trans (h.at_ i u e), fun i hi => (World.frozen?_setCell _ _ _ _).trans (h.fz i hi), by simpa using h.lt⟩
theorem Cs.set {w : World} {g : Nat} {vs : List Value} (h : Cs w g vs) (k : Nat) (hk : k < vs.length) (v : Value) : Cs (w.setCell ⟨g, k, none⟩ v) g (vs.set k v) := by
 have hl := h.lt
 have hf := h.fz k hk
 have hc := h.at_ k vs[k] (by simp [hk])
 refine ⟨fun i u e => ?_, fun i hi => (World.frozen?_setCell _ _ _ _).trans (h.fz i (by simpa using hi)), by simpa using h.lt⟩
 by_cases hik : i = k
 ·subst hik
  rw [List.getElem?_set_self hk] at e
  cases e
  simp [go_sem, *]
 ·rw [List.getElem?_set_ne (fun e => hik e.symm)] at e
  have := h.at_ i u e
  have hne : ¬ k = i := fun e => hik e.symm
  simp [go_sem, *]
theorem GB.cs {b : Nat} {w w' : World} {g : Nat} {vs : List Value} (h : GB b w w') (x : Cs w g vs) (hne : g ≠ b) : Cs w' g vs :=
 ⟨fun i v e => h.keep x.lt hne (x.at_ i v e), fun i hi => h.keepF x.lt hne (x.fz i hi), Nat.lt_of_lt_of_le x.lt h.size⟩
theorem GB.hops {b : Nat} {w w' : World} {ad : Option Addr} {L : List (Int × Int)} (h : GB b w w') (x : HopsAt w ad L) (hne : ∀ a, ad = some a -> a.block ≠ b) : HopsAt w' ad L := by
 intro j hj
 obtain ⟨g, off, e, hg, h1, h2⟩ := x j hj
 have := hne _ e
 exact ⟨g, off, e, Nat.lt_of_lt_of_le hg h.size, h.keep hg this h1, h.keep hg this h2⟩

/- a frame is laid into a block -/
end Go.Proofs.YthaadiclopoamaaGreatDoor
