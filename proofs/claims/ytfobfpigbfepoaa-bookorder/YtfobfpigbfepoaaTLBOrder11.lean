/- What the proof is made of, part 11. -/
import Derived.Test.YtfobfpigbfepoaaTLBOrder10
import Derived.Test.YtfobfpigbfepoaaRows
import Derived.ProofKit
import Derived.ChangeSame
import Derived.LaidMore
import Derived.OpenShut
import Derived.ChangeSlices
import Derived.ShutString
import Derived.SizedLaws
import Derived.Deep.Strs
namespace Go.Proofs.Ytfobfpigbfepoaa
open Go.RowKit Go.Maps
open Lex (Tok valE valB)
open Df (Stp St tk Gd isT passB passS mustS takeB takeV stpV stpS lopS defQ defN defR)
def boolCell : Option Value → Nat
  | some (.bool true) => 0
  | _ => 1
structure TwoAt (w : World) (g : Nat) (x y : Value) : Prop where
  c0 : w.cell? ⟨g, 0, none⟩ = some x
  c1 : w.cell? ⟨g, 1, none⟩ = some y
  f0 : w.frozen? ⟨g, 0, none⟩ = false
  f1 : w.frozen? ⟨g, 1, none⟩ = false
  lt : g < w.heap.size
theorem TwoAt.new (w : World) (x y : Value) (t : TypeId) (g : Nat) (hg : g = w.heap.size) : TwoAt (w.alloc (.cells #[x, y] t)) g x y := by
  subst hg
  exact ⟨by simp, by simp, by simp [go_sem], by simp [go_sem], by simp⟩
theorem TwoAt.gr {w w' : World} {g : Nat} {x y : Value} (h : TwoAt w g x y) (k : Gr w w') : TwoAt w' g x y :=
  ⟨k.keep h.c0, k.keep h.c1, k.keepF h.lt h.f0, k.keepF h.lt h.f1, Nat.lt_of_lt_of_le h.lt k.size⟩
theorem TwoAt.grown {w w' : World} {g : Nat} {x y : Value} (h : TwoAt w g x y) {r : Option Nat} (k : w.grownBy w' r) (hne : some g ≠ r) : TwoAt w' g x y :=
  ⟨grown_cell k h.c0 h.lt hne, grown_cell k h.c1 h.lt hne, grown_frozen k h.f0 h.lt hne, grown_frozen k h.f1 h.lt hne, Nat.lt_of_lt_of_le h.lt k.size⟩
theorem TwoAt.setFar {w : World} {g : Nat} {x y : Value} (h : TwoAt w g x y) (p : Addr) (u : Value) (hp : p.block ≠ g) : TwoAt (w.setCell p u) g x y := by
  obtain ⟨c0, c1, f0, f1, lt⟩ := h
  refine ⟨?_, ?_, ?_, ?_, by simpa using lt⟩
  · rw [World.cell?_setCell_far _ _ _ _ (by simpa using hp)]; exact c0
  · rw [World.cell?_setCell_far _ _ _ _ (by simpa using hp)]; exact c1
  · rw [World.frozen?_setCell]; exact f0
  · rw [World.frozen?_setCell]; exact f1
theorem TwoAt.set0 {w : World} {g : Nat} {x y : Value} (h : TwoAt w g x y) (u : Value) : TwoAt (w.setCell ⟨g, 0, none⟩ u) g u y := by
  obtain ⟨c0, c1, f0, f1, lt⟩ := h
  exact ⟨by simp [go_sem, *], by simp [go_sem, *], by simp [go_sem, *], by simp [go_sem, *], by simpa using lt⟩
theorem TwoAt.set1 {w : World} {g : Nat} {x y : Value} (h : TwoAt w g x y) (u : Value) : TwoAt (w.setCell ⟨g, 1, none⟩ u) g x u := by
  obtain ⟨c0, c1, f0, f1, lt⟩ := h
  exact ⟨by simp [go_sem, *], by simp [go_sem, *], by simp [go_sem, *], by simp [go_sem, *], by simpa using lt⟩
theorem Rd.grown {w w' : World} {b m : Nat} {ad : Option Addr} {T : List Tok} {cap : Nat} {q : St} (h : Rd w b m ad T cap q) {r : Option Nat} (k : w.grownBy w' r) (hb : some b ≠ r) (hm : some m ≠ r) (ha : ∀ a, ad = some a → some a.block ≠ r) : Rd w' b m ad T cap q := by
  refine ⟨grown_cell k h.c0 h.lt hb, grown_cell k h.c1 h.lt hb, grown_cell k h.c2 h.lt hb, grown_cell k h.c3 h.lt hb, grown_frozen k h.f1 h.lt hb, grown_frozen k h.f2 h.lt hb, Nat.lt_of_lt_of_le h.lt k.size, ?_, fun a e => ⟨(h.na a e).1, Nat.lt_of_lt_of_le (h.na a e).2 k.size⟩, World.ownsMap.kept h.mp k hm, h.nm⟩
  intro j hj
  obtain ⟨tb, off, e, hl, h1, h2, h3⟩ := h.ts j hj
  have hne := ha _ e
  exact ⟨tb, off, e, Nat.lt_of_lt_of_le hl k.size, grown_cell k h1 hl hne, grown_cell k h2 hl hne, grown_cell k h3 hl hne⟩
structure DfI (w : World) (b m : Nat) (ad : Option Addr) (T : List Tok) (cap : Nat) (nm : ByteArray) (F : St × List Stp) (wr : World) (q : St) (L : List Stp) (a : Option Addr) (c f : Nat) : Prop where
  rd : Rd wr b m ad T cap q
  re : TwoAt wr w.heap.size (.string ⟨#[]⟩) (.slice none 0 0)
  dd : TwoAt wr (w.heap.size + 1) (.string nm) (.slice a L.length c)
  own : wr.ownsRow (w.heap.size + 2) 52 7 (.slice a L.length c) L.length (L.flatMap stpC)
  gb : GB b w wr
  lq : q.i < T.length
  le : L.length ≤ T.length + 1
  lo : q.s = false → L.length ≤ q.i
  f0 : 0 < f
  fu : q.s = false → T.length - q.i + 1 < f
  eq : lopS T f q L = F
def DfR (w : World) (b m : Nat) (ad : Option Addr) (T : List Tok) (cap : Nat) (nm : ByteArray) (F : St × List Stp) (e : Ending) (w' : World) : Prop :=
  ∃ a c, e = .returned (.agg #[.string nm, .slice a F.2.length c]) ∧ StpsAt w' a F.2 ∧ Rd w' b m ad T cap F.1 ∧ GB b w w' ∧ F.2.length ≤ c ∧ F.2.length ≤ T.length + 1 ∧ F.1.i < T.length ∧ (∀ x, a = some x → w.heap.size ≤ x.block)
theorem df_done {w : World} {b m : Nat} {ad : Option Addr} {T : List Tok} {cap : Nat} {nm : ByteArray} {wr : World} {q q0 : St} {L : List Stp} {a : Option Addr} {c : Nat} {F : St × List Stp} (h0 : Rd w b m ad T cap q0) (hr : Rd wr b m ad T cap q)
    (own : wr.ownsRow (w.heap.size + 2) 52 7 (.slice a L.length c) L.length (L.flatMap stpC)) (gb : GB b w wr) (lq : q.i < T.length) (le : L.length ≤ T.length + 1) (hF : F = (q, L)) (u v : Value) :
    DfR w b m ad T cap nm F (.returned (.agg #[.string nm, .slice a L.length c])) ((wr.setCell ⟨w.heap.size, 0, none⟩ u).setCell ⟨w.heap.size, 1, none⟩ v) := by
  subst hF
  obtain ⟨a', c', e, hc, _, hs, ha, _⟩ := own_row own
  cases e
  refine ⟨a, c, rfl, ?_, ?_, ?_, hc, le, lq, fun x e => by have := ha x e; omega⟩
  · exact (hs.setFar _ _ (fun x e => by have := ha x e; simp; omega)).setFar _ _ (fun x e => by have := ha x e; simp; omega)
  · exact (hr.setTop h0 _ _ (by simp)).setTop h0 _ _ (by simp)
  · exact GB.setNew (GB.setNew gb ⟨w.heap.size, 0, none⟩ _ (Or.inl (by simp))) ⟨w.heap.size, 1, none⟩ _ (Or.inl (by simp))
theorem keepC {a b : World} {p : Addr} {x : Value} (h : a.cell? p = some x) (g : Gr a b) : b.cell? p = some x := g.keep h
theorem stp_lit1 (w : World) (x : Stp) (t : TypeId) : ∀ j u, ([x].flatMap stpC)[j]? = some u → (w.alloc (.cells #[.int .i64 x.k, .string x.a, .int .i64 x.n, .int .i64 x.o, .string x.u, .int .i64 x.y, .int .i64 x.v] t)).cell? ((⟨w.heap.size, 0, none⟩ : Addr).add j) = some u := by
  intro j u hu
  have hj : j < 7 := by
    have := (List.getElem?_eq_some_iff.1 hu).1
    simpa [stpC] using this
  rw [Addr.add_lit]
  match j, hj with
  | 0, _ => simp [stpC] at hu; subst hu; simp
  | 1, _ => simp [stpC] at hu; subst hu; simp
  | 2, _ => simp [stpC] at hu; subst hu; simp
  | 3, _ => simp [stpC] at hu; subst hu; simp
  | 4, _ => simp [stpC] at hu; subst hu; simp
  | 5, _ => simp [stpC] at hu; subst hu; simp
  | 6, _ => simp [stpC] at hu; subst hu; simp
theorem stpV_app (L M : List Stp) : (L ++ M).flatMap stpC = L.flatMap stpC ++ M.flatMap stpC := by simp
set_option maxHeartbeats 8000000 in
set_option maxRecDepth 100000 in
theorem dDef_any (b m : Nat) (ad : Option Addr) (T : List Tok) (cap : Nat) (i : Nat) (w : World) (h : Rd w b m ad T cap ⟨i, false⟩) (hT : Gd T) (hi : i < T.length) (hn : T.length ≤ 5000) :
    Calls Try.prog 56 #[.pointer (some ⟨b, 0, none⟩)] w fun e w' => DfR w b m ad T cap (defN T i) (defR T i) e w' := by
  obtain ⟨i0, hi0, hz0, hz1, hz2⟩ := info_parts3 infoStp
  have l1 := must_lt hT (q := ⟨i, false⟩) 1 Df.wSaga (by decide) hi
  have l2 := take_lt hT 1 (by decide) l1
  have l3 := must_lt hT 3 Df.gOpen (by decide) l2
  have H1 : Hid (∀ w', Rd w' b m ad T cap ⟨i, false⟩ → Calls Try.prog 67 #[.pointer (some ⟨b, 0, none⟩), .int .i64 1, .string ⟨#[115, 97, 103, 97]⟩] w' fun e w2 => e = .returned (.tuple #[]) ∧ Rd w2 b m ad T cap (mustS T ⟨i, false⟩ 1 Df.wSaga) ∧ GB b w' w2) := fun w' h' => dMust_any b m ad T cap _ 1 Df.wSaga w' h' hi hn
  have H2 : Hid (∀ w', Rd w' b m ad T cap (mustS T ⟨i, false⟩ 1 Df.wSaga) → Calls Try.prog 68 #[.pointer (some ⟨b, 0, none⟩), .int .i64 1] w' fun e w2 => e = .returned (.string (defN T i)) ∧ Rd w2 b m ad T cap (Df.takeS T (mustS T ⟨i, false⟩ 1 Df.wSaga) 1) ∧ GB b w' w2) := fun w' h' => dTake_any b m ad T cap _ 1 w' h' hT l1 hn
  have H3 : Hid (∀ w', Rd w' b m ad T cap (Df.takeS T (mustS T ⟨i, false⟩ 1 Df.wSaga) 1) → Calls Try.prog 67 #[.pointer (some ⟨b, 0, none⟩), .int .i64 3, .string ⟨#[123]⟩] w' fun e w2 => e = .returned (.tuple #[]) ∧ Rd w2 b m ad T cap (defQ T i) ∧ GB b w' w2) := fun w' h' => dMust_any b m ad T cap _ 3 Df.gOpen w' h' l2 hn
  have H4 : Hid (∀ (q : St) (w' : World), q.i < T.length → Rd w' b m ad T cap q → Calls Try.prog 69 #[.pointer (some ⟨b, 0, none⟩), .int .i64 3, .string ⟨#[125]⟩] w' fun e w2 => e = .returned (.bool (passB T q 3 Df.gShut)) ∧ Rd w2 b m ad T cap (passS T q 3 Df.gShut) ∧ GB b w' w2) := fun q w' hq h' => dPass_any b m ad T cap q 3 Df.gShut w' h' hq hn
  have H5 : Hid (∀ (q : St) (w' : World), q.i < T.length → Rd w' b m ad T cap q → Calls Try.prog 70 #[.pointer (some ⟨b, 0, none⟩)] w' fun e w2 => e = .returned (.agg #[.int .i64 (stpV T q).k, .string (stpV T q).a, .int .i64 (stpV T q).n, .int .i64 (stpV T q).o, .string (stpV T q).u, .int .i64 (stpV T q).y, .int .i64 (stpV T q).v]) ∧ Rd w2 b m ad T cap (stpS T q) ∧ GB b w' w2) := fun q w' hq h' => dStep_any b m ad T cap q w' h' hT hq hn
  have HT : Hid (Gd T) := hT
  have HRT : Hid (Rd w b m ad T cap ⟨i, false⟩) := h
  have hbl : b < w.heap.size := h.lt
  have HA0 : Hid (TwoAt ((w.alloc (.cells #[.string ⟨#[]⟩, .slice none 0 0] 27)).alloc (.cells #[.string ⟨#[]⟩, .slice none 0 0] 27)) w.heap.size (.string ⟨#[]⟩) (.slice none 0 0)) := (TwoAt.new w _ _ 27 _ rfl).gr (Gr.refl _).alloc
  have HB0 : Hid (TwoAt ((w.alloc (.cells #[.string ⟨#[]⟩, .slice none 0 0] 27)).alloc (.cells #[.string ⟨#[]⟩, .slice none 0 0] 27)) (w.heap.size + 1) (.string ⟨#[]⟩) (.slice none 0 0)) := TwoAt.new _ _ _ 27 _ (by simp)
  have HR0 : Hid (Rd ((w.alloc (.cells #[.string ⟨#[]⟩, .slice none 0 0] 27)).alloc (.cells #[.string ⟨#[]⟩, .slice none 0 0] 27)) b m ad T cap ⟨i, false⟩) := (h.gr (Gr.refl _).alloc).gr (Gr.refl _).alloc
  have HG0 : Hid (GB b w ((w.alloc (.cells #[.string ⟨#[]⟩, .slice none 0 0] 27)).alloc (.cells #[.string ⟨#[]⟩, .slice none 0 0] 27))) := ((GB.refl b w).alloc).alloc
  have HQ : Hid (defR T i = lopS T (T.length + 2) (defQ T i) []) := rfl
  have l3' : (defQ T i).i < T.length := l3
  generalize defN T i = NM at *
  generalize defR T i = F at *
  generalize defQ T i = q3 at *
  generalize Df.takeS T (mustS T ⟨i, false⟩ 1 Df.wSaga) 1 = q2 at *
  generalize mustS T ⟨i, false⟩ 1 Df.wSaga = q1 at *
  clear h hT l1 l2 l3
  go_enter Try.func56, Try.ntmps56
  go_wp2_with fail
  refine (H1.out _ HR0.out).mono ?_
  rintro e w1 ⟨rfl, hr, hg⟩
  have HR1 := Lib.hid hr
  have HG1 := Lib.hid (HG0.out.trans hg)
  have HA1 := Lib.hid (HA0.out.grown hg.g (by simp; omega))
  have HB1 := Lib.hid (HB0.out.grown hg.g (by simp; omega))
  clear hr hg
  go_wp2_with fail
  refine (H2.out _ HR1.out).mono ?_
  rintro e w2 ⟨rfl, hr, hg⟩
  have HB2a := HB1.out.grown hg.g (by simp; omega)
  have HR2 := Lib.hid (hr.setTop HRT.out ⟨w.heap.size + 1, 0, none⟩ (.string NM) (by simp))
  have HG2 := Lib.hid (GB.setNew (HG1.out.trans hg) ⟨w.heap.size + 1, 0, none⟩ (.string NM) (Or.inl (by simp)))
  have HA2 := Lib.hid ((HA1.out.grown hg.g (by simp; omega)).setFar ⟨w.heap.size + 1, 0, none⟩ (.string NM) (by simp))
  have HB2 := Lib.hid (HB2a.set0 (.string NM))
  obtain ⟨b0, b1, f0, f1, bl⟩ := HB2a
  clear hr hg
  go_wp2_with fail
  refine (H3.out _ HR2.out).mono ?_
  rintro e w3 ⟨rfl, hr, hg⟩
  have HI0 : Hid (DfI w b m ad T cap NM F w3 q3 [] none 0 (T.length + 2)) := ⟨hr, HA2.out.grown hg.g (by simp; omega), HB2.out.grown hg.g (by simp; omega), World.ownsRow_nil _ _ _ _, HG2.out.trans hg, l3', by simp, fun _ => by simp, by omega, fun _ => by omega, HQ.out.symm⟩
  clear hr hg b0 b1 f0 f1 bl HR0 HR1 HR2 HG0 HG1 HG2 HA0 HA1 HA2 HB0 HB1 HB2 H1 H2 H3 HQ
  go_wp2
  go_loopw [29] (fun _ wr => ∃ (q : St) (L : List Stp) (a : Option Addr) (c f : Nat), DfI w b m ad T cap NM F wr q L a c f) (fun _ wr => boolCell (wr.cell? ⟨b, 2, none⟩) * (T.length + 1 - intCell (wr.cell? ⟨b, 1, none⟩)))
  case atStart => exact ⟨_, _, _, _, _, HI0.out⟩
  case round =>
    obtain ⟨q, L, a, c, f, hI⟩ := hrel
    have HI := Lib.hid hI
    obtain ⟨c0, c1, c2, c3, _, _, lt, _, _, _, _⟩ := hI.rd
    obtain ⟨i, st⟩ := q
    simp only at c1 c2
    clear hI HI0
    cases st with
    | true =>
      have HF : Hid (F = (⟨i, true⟩, L)) := by
        have h1 := HI.out.eq
        have h2 := HI.out.f0
        obtain ⟨f', rfl⟩ : ∃ f', f = f' + 1 := ⟨f - 1, by omega⟩
        rw [Df.lop_stuck] at h1
        exact h1.symm
      obtain ⟨a0, a1, af0, af1, al⟩ := HI.out.re
      obtain ⟨d0, d1, df0, df1, dl⟩ := HI.out.dd
      go_wp2
      refine bodyPost_ret (v := .agg #[.string NM, .slice a L.length c]) (by simp [results, Try.results56, go_sem, *]) rfl ?_
      exact df_done HRT.out HI.out.rd HI.out.own HI.out.gb HI.out.lq HI.out.le HF.out _ _
    | false =>
      go_wp2_with fail
      refine (H4.out ⟨i, false⟩ _ HI.out.lq HI.out.rd).mono ?_
      rintro e w1 ⟨rfl, hr, hg⟩
      rw [Df.pass_open]
      have HG1 := Lib.hid (HI.out.gb.trans hg)
      have HA1 := Lib.hid (HI.out.re.grown hg.g (by simp; omega))
      have HB1 := Lib.hid (HI.out.dd.grown hg.g (by simp; omega))
      have HO1 := Lib.hid (HI.out.own.kept hg.g (Or.inr (fun e => by have := (HI.out.own.lt _ e).1; omega)))
      obtain ⟨f', hf'⟩ : ∃ f', f = f' + 1 := ⟨f - 1, by have := HI.out.f0; omega⟩
      have HE : Hid (F = if isT (tk T i) 3 Df.gShut = true then (⟨i + 1, false⟩, L) else lopS T f' (stpS T ⟨i, false⟩) (L ++ [stpV T ⟨i, false⟩])) := by
        have h1 := HI.out.eq
        rw [hf', Df.lop_open] at h1
        exact h1.symm
      cases hs : isT (tk T i) 3 Df.gShut with
      | true =>
        have HF : Hid (F = (⟨i + 1, false⟩, L)) := by have := HE.out; rw [hs, if_pos rfl] at this; exact this
        rw [Df.pass_yes hs] at hr
        have HR1 := Lib.hid hr
        have HLQ : Hid (i + 1 < T.length) := HT.out.next (by rw [((Df.isT_iff _ _ _).1 hs).1]; decide)
        obtain ⟨a0, a1, af0, af1, al⟩ := HA1.out
        obtain ⟨d0, d1, df0, df1, dl⟩ := HB1.out
        clear hr hg hs HE
        go_wp2
        refine bodyPost_ret (v := .agg #[.string NM, .slice a L.length c]) (by simp [results, Try.results56, go_sem, *]) rfl ?_
        exact df_done HRT.out HR1.out HO1.out HG1.out HLQ.out HI.out.le HF.out _ _
      | false =>
        have HF : Hid (F = lopS T f' (stpS T ⟨i, false⟩) (L ++ [stpV T ⟨i, false⟩])) := by have := HE.out; rw [hs, if_neg (by decide)] at this; exact this
        have hps : passS T ⟨i, false⟩ 3 Df.gShut = ⟨i, false⟩ := by unfold Df.passS; rw [Df.pass_open, hs]; rfl
        rw [hps] at hr
        have HR1 := Lib.hid hr
        clear hr hg hs HE hps c0 c1 c2 c3 lt
        obtain ⟨g1, g2⟩ := Df.stp_le HT.out i HI.out.lq
        have HL2 : Hid ((stpS T ⟨i, false⟩).i < T.length ∧ ((stpS T ⟨i, false⟩).s = true ∨ i < (stpS T ⟨i, false⟩).i)) := ⟨g1, g2⟩
        clear g1 g2
        have HLL : Hid (L.length ≤ i ∧ i < T.length ∧ T.length - i + 1 < f) := ⟨HI.out.lo rfl, HI.out.lq, HI.out.fu rfl⟩
        have hll : L.length ≤ 5000 := by have := HLL.out; omega
        have H5' : Hid (∀ w', Rd w' b m ad T cap ⟨i, false⟩ → Calls Try.prog 70 #[.pointer (some ⟨b, 0, none⟩)] w' fun e w2 => e = .returned (.agg #[.int .i64 (stpV T ⟨i, false⟩).k, .string (stpV T ⟨i, false⟩).a, .int .i64 (stpV T ⟨i, false⟩).n, .int .i64 (stpV T ⟨i, false⟩).o, .string (stpV T ⟨i, false⟩).u, .int .i64 (stpV T ⟨i, false⟩).y, .int .i64 (stpV T ⟨i, false⟩).v]) ∧ Rd w2 b m ad T cap (stpS T ⟨i, false⟩) ∧ GB b w' w2) := fun w' h' => H5.out ⟨i, false⟩ w' HI.out.lq h'
        generalize stpV T ⟨i, false⟩ = SV at *
        generalize stpS T ⟨i, false⟩ = SS at *
        have hk := HB1.out.c1
        have HM0 : Hid (boolCell (wr.cell? ⟨b, 2, none⟩) * (T.length + 1 - intCell (wr.cell? ⟨b, 1, none⟩)) = T.length + 1 - i) := by
          show _ = _
          rw [HI.out.rd.c2, HI.out.rd.c1]; simp [boolCell, intCell]
        go_upto_region 6 with fail
        have hkd : w1.drew.cell? ⟨w.heap.size + 1, 1, none⟩ = some (.slice a L.length c) := hk
        refine beginL 7 (fun w' => w'.cell? ⟨w.heap.size + 1, 1, none⟩ = some (.slice a L.length c)) (by kernel_rfl) (by first | with_reducible exact hkd | with_reducible exact hk2 | with_reducible exact keepC hk2 (Gr.refl _).alloc | with_reducible exact hk6) (fun hHeld => ?_)
        refine takeW 0 30 (v := ?_) rfl rfl (by decide) (by kernel_rfl) (by kernel_rfl) (by kernel_rfl) (fun _ _ _ h => h) (by rfl) ?_ (fun _ => hHeld) ?_
        rotate_left
        · (intro w; (try intro hSw); (try dsimp only at hSw); go_simp; try with_reducible rfl)
        simp only [Act.put, List.setIfInBounds_toArray, List.set_cons_zero, List.set_cons_succ]
        refine takeW 2 32 (v := ?_) rfl rfl (by decide) (by kernel_rfl) (by kernel_rfl) (by kernel_rfl) (fun _ _ _ h => h) (by rfl) ?_ (fun _ => hHeld) ?_
        rotate_left
        · (intro w; (try intro hSw); (try dsimp only at hSw); go_simp; try with_reducible rfl)
        simp only [Act.put, List.setIfInBounds_toArray, List.set_cons_zero, List.set_cons_succ]
        refine takeS 1 31 (v := ?_) rfl rfl (by decide) (by kernel_rfl) (by kernel_rfl) (by kernel_rfl) (by kernel_rfl) (by kernel_rfl) (fun _ _ _ h => h) (by rfl) ?_ hHeld ?_
        rotate_left
        · (intro w; (try intro hSw); (try dsimp only at hSw); go_simp; try with_reducible rfl)
        simp only [Act.put, List.setIfInBounds_toArray, List.set_cons_zero, List.set_cons_succ]
        refine stepC 3 (by kernel_rfl) rfl (fun K hK => ?_)
        go_simp
        refine (H5'.out _ (HR1.out.gr (Gr.refl _).drew)).mono ?_; rintro e w2 ⟨rfl, hr, hg⟩; have hk2 : w2.cell? ⟨w.heap.size + 1, 1, none⟩ = some (.slice a L.length c) := hg.keep HB1.out.lt (by omega) hkd
        (try go_wp2_with fail)
        refine hK.out _ _ (by first | with_reducible exact hkd | with_reducible exact hk2 | with_reducible exact keepC hk2 (Gr.refl _).alloc | with_reducible exact hk6) (fun hHeldN => ?_)
        clear hHeld hK K
        have hHeld := hHeldN
        clear hHeldN
        have HR2 := Lib.hid hr
        have HG2 := Lib.hid (HG1.out.drew.trans hg)
        have HA2 := Lib.hid ((HA1.out.gr (Gr.refl _).drew).grown hg.g (by simp; omega))
        have HB2 := Lib.hid ((HB1.out.gr (Gr.refl _).drew).grown hg.g (by simp; omega))
        have HO2 := Lib.hid (World.ownsRow.kept (w := w1.drew) HO1.out hg.g (Or.inr (fun e => by have := (HO1.out.lt _ e).1; omega)))
        clear hr hg hkd hk HR1 HG1 HA1 HB1 HO1
        refine stepC 4 (by kernel_rfl) rfl (fun K hK => ?_)
        go_simp
        refine hK.out _ _ (by first | with_reducible exact hkd | with_reducible exact hk2 | with_reducible exact keepC hk2 (Gr.refl _).alloc | with_reducible exact hk6) (fun hHeldN => ?_)
        clear hHeld hK K
        have hHeld := hHeldN
        clear hHeldN
        have HO4 : Hid (World.ownsRow (w2.alloc (.cells #[.int .i64 SV.k, .string SV.a, .int .i64 SV.n, .int .i64 SV.o, .string SV.u, .int .i64 SV.y, .int .i64 SV.v] 52)) (w.heap.size + 2) 52 7 (.slice a L.length c) L.length (L.flatMap stpC)) := HO2.out.kept (grown_gr none (Gr.refl _).alloc) (own_or _)
        have HN4 := Lib.hid (stp_lit1 w2 SV 52)
        have hwz : w.heap.size + 2 ≤ (w2.alloc (.cells #[.int .i64 SV.k, .string SV.a, .int .i64 SV.n, .int .i64 SV.o, .string SV.u, .int .i64 SV.y, .int .i64 SV.v] 52)).heap.size := by have := HB2.out.lt; simp; omega
        have bne : ∀ {v : Value} {wx : World} {n : Nat} {xs : List Value}, wx.ownsRow (w.heap.size + 2) 52 7 v n xs → ∀ i, i ≤ w.heap.size + 1 → some i ≠ v.ownBlock := fun h i hi e => by have := (h.lt _ e.symm).1; omega
        refine stepC 5 (by kernel_rfl) rfl (fun K hK => ?_)
        (refine step_append_own (by rfl) _ _ 25 (by rfl) (w.heap.size + 2) 52 i0 (.agg #[.int .i64 0, .string ⟨#[]⟩, .int .i64 0, .int .i64 0, .string ⟨#[]⟩, .int .i64 0, .int .i64 0]) 7 72 Try.underlying25 hi0 hz0 hz1 hz2 rfl (by decide) _ _ _ (by rfl) HO4.out ⟨w2.heap.size, 0, none⟩ 1 1 ([SV].flatMap stpC) (by rfl) (by rfl) HN4.out (stp_one _) (by unfold maxLen; omega) (by omega) hwz ?_; intro v6 w6 ho6 hgr6 hn6; have hk6 : w6.cell? ⟨w.heap.size + 1, 1, none⟩ = some (.slice a L.length c) := hgr6.cell (keepC hk2 (Gr.refl _).alloc) (bne HO4.out _ (by simp)))
        refine hK.out (Act.put _ (some 35) v6) _ (by first | with_reducible exact hkd | with_reducible exact hk2 | with_reducible exact keepC hk2 (Gr.refl _).alloc | with_reducible exact hk6) (fun hHeldN => ?_)
        clear hHeld hK K
        have hHeld := hHeldN
        clear hHeldN
        simp only [Act.put, List.setIfInBounds_toArray, List.set_cons_zero, List.set_cons_succ]
        have ho6' : w6.ownsRow (w.heap.size + 2) 52 7 v6 (L ++ [SV]).length ((L ++ [SV]).flatMap stpC) := by rw [List.length_append, stpV_app]; exact ho6
        obtain ⟨a6, c6, rfl, hc6, _⟩ := own_row ho6'
        have HO6 := Lib.hid ho6'
        have HB6 := Lib.hid ((HB2.out.gr (Gr.refl _).alloc).grown hgr6 (bne HO4.out _ (by simp)))
        have HA6 := Lib.hid ((HA2.out.gr (Gr.refl _).alloc).grown hgr6 (bne HO4.out _ (by simp)))
        have HR6 : Hid (Rd w6 b m ad T cap SS) := (HR2.out.gr (Gr.refl _).alloc).grown hgr6 (bne HO4.out _ (by omega)) (bne HO4.out _ (by have := HRT.out.mp.lt; omega)) (fun x e => bne HO4.out _ (by have := (HRT.out.na x e).2; omega))
        have HG6 : Hid (GB b w w6) := ⟨grown_other HG2.out.alloc.g hgr6 (fun g e => by have := (HO4.out.lt g e).1; omega)⟩
        clear ho6 hgr6 hn6 ho6' HO4 HN4 hwz HO2 HB2 HA2 HR2 HG2
        obtain ⟨d0, d1, df0, df1, dl⟩ := HB6.out
        refine takeW 6 36 (v := ?_) rfl rfl (by decide) (by kernel_rfl) (by kernel_rfl) (by kernel_rfl) (fun _ _ _ h => h) (by rfl) ?_ (fun _ => hHeld) ?_
        rotate_left
        · (intro w; (try intro hSw); (try dsimp only at hSw); go_simp; try with_reducible rfl)
        simp only [Act.put, List.setIfInBounds_toArray, List.set_cons_zero, List.set_cons_succ]
        refine stepS (by kernel_rfl) rfl (by kernel_rfl) (fun K hK => ?_)
        go_simp
        refine hK.out _ _ ?_
        clear hHeld hK K
        refine doneL (by kernel_rfl) ?_ _
        have HI7 : Hid (DfI w b m ad T cap NM F (w6.setCell ⟨w.heap.size + 1, 1, none⟩ (.slice a6 (L.length + 1) c6)) SS (L ++ [SV]) a6 c6 f') := by
          rw [show L.length + 1 = (L ++ [SV]).length by simp]
          refine ⟨HR6.out.setTop HRT.out _ _ (by simp), HA6.out.setFar _ _ (by simp), HB6.out.set1 _, own_far HO6.out _ _ (fun e => bne HO6.out _ (Nat.le_refl _) e.symm), GB.setNew HG6.out ⟨w.heap.size + 1, 1, none⟩ _ (Or.inl (by simp)), HL2.out.1, ?_, ?_, ?_, ?_, HF.out.symm⟩
          · have := HLL.out; rw [List.length_append, List.length_singleton]; omega
          · intro e
            rcases HL2.out.2 with h | h
            · rw [e] at h; cases h
            · have := HLL.out; rw [List.length_append, List.length_singleton]; omega
          · have := HLL.out; omega
          · intro e
            rcases HL2.out.2 with h | h
            · rw [e] at h; cases h
            · have := HLL.out; have := HL2.out.1; omega
        go_wp2
        go_roundw
        case rel => exact ⟨_, _, _, _, _, HI7.out⟩
        case measure =>
          rw [HM0.out, HI7.out.rd.c2, HI7.out.rd.c1]
          have h1 := HLL.out
          have h2 := HL2.out
          obtain ⟨si, ss⟩ := SS
          simp only at h2
          cases ss with
          | true => simp [boolCell]; omega
          | false =>
            rcases h2.2 with h | h
            · cases h
            · simp [boolCell, intCell]; omega
end Go.Proofs.Ytfobfpigbfepoaa
namespace Go.Proofs.Ytfobfpigbfepoaa
open Go.RowKit
open Df (Stp ownB askB stpB defB chE)
open _root_.Go.Proofs.Ytfobfpigbfepoaa.Act (nameB)
theorem def_nidx {nm : ByteArray} {L : List Stp} (j : Nat) (h : j < L.length) (hb : stpB L[j] = false) : defB nm L = false := by
  unfold Df.defB
  have : L.all stpB = false := by
    rw [List.all_eq_false]
    exact ⟨_, List.getElem_mem h, by rw [hb]; simp⟩
  rw [this]; simp
theorem def_idx {nm : ByteArray} {L : List Stp} (h0 : nameB nm = true) (h1 : 1 ≤ L.length) (h8 : L.length ≤ 8) (h : ∀ j (hj : j < L.length), stpB L[j] = true) : defB nm L = true := by
  refine (Df.def_iff nm L).2 ⟨h0, h1, h8, fun s hs => ?_⟩
  obtain ⟨j, hj, rfl⟩ := List.getElem_of_mem hs
  exact h j hj
set_option maxHeartbeats 4000000 in
set_option maxRecDepth 100000 in
theorem dCheck_any (nm : ByteArray) (L : List Stp) (ad : Option Addr) (cap : Nat) (w : World) (hL : StpsAt w ad L) (hs : nm.size ≤ 9223372036854775807) (hn : L.length ≤ 9223372036854775807) (hz : ∀ s ∈ L, inS s) :
    Calls Try.prog 19 #[.agg #[.string nm, .slice ad L.length cap]] w fun e w' => e = .returned (.int .i64 (chE nm L)) ∧ Gr w w' := by
  have HN : Hid (∀ w', Calls Try.prog 30 #[.string nm] w' fun e w2 => e = .returned (.bool (nameB nm)) ∧ w2 = w') := fun w' => name_any nm w' hs
  have HW : Hid (∀ w', Calls Try.prog 31 #[.int .i64 (L.length : Int), .int .i64 1, .int .i64 8] w' fun e w2 => e = .returned (.bool (decide ((1 : Int) ≤ (L.length : Int)) && decide ((L.length : Int) ≤ 8))) ∧ w2 = w') := fun w' => within_any _ 1 8 w'
  have HO : Hid (∀ (j : Nat) (h : j < L.length) (w' : World), Calls Try.prog 32 #[.agg #[.int .i64 L[j].k, .string L[j].a, .int .i64 L[j].n, .int .i64 L[j].o, .string L[j].u, .int .i64 L[j].y, .int .i64 L[j].v]] w' fun e w2 => e = .returned (.bool (ownB L[j])) ∧ Gr w' w2) := fun j h w' => isOwn_any L[j] w' (hz _ (List.getElem_mem h))
  have HA : Hid (∀ (j : Nat) (h : j < L.length) (w' : World), Calls Try.prog 33 #[.agg #[.int .i64 L[j].k, .string L[j].a, .int .i64 L[j].n, .int .i64 L[j].o, .string L[j].u, .int .i64 L[j].y, .int .i64 L[j].v]] w' fun e w2 => e = .returned (.bool (askB L[j])) ∧ Gr w' w2) := fun j h w' => asks_any L[j] w' (hz _ (List.getElem_mem h))
  have HL : Hid (StpsAt w ad L) := hL
  cases hnb : nameB nm with
  | false =>
    have HF : Hid (chE nm L = 90) := Df.ch_no (by unfold Df.defB; rw [hnb]; rfl)
    rw [hnb] at HN
    clear hnb hL hz
    go_enter Try.func19, Try.ntmps19
    go_wp2_with fail
    refine (HN.out _).mono ?_
    rintro e w1 ⟨rfl, hw⟩; obtain rfl := hw.symm
    go_wp2
    go_ret
    exact ⟨by rw [HF.out]; rfl, (by repeat (first | exact Gr.refl _ | refine Gr.alloc ?_ | refine Gr.drew ?_ | refine Gr.trans ?_ (by assumption)))⟩
  | true =>
    by_cases hlen : 1 ≤ L.length ∧ L.length ≤ 8
    · rw [hnb] at HN
      rw [show (decide ((1 : Int) ≤ (L.length : Int)) && decide ((L.length : Int) ≤ 8)) = true by simp; omega] at HW
      have HY : Hid ((∀ j (hj : j < L.length), stpB L[j] = true) → chE nm L = 0) := fun h => Df.ch_yes (def_idx hnb hlen.1 hlen.2 h)
      have HX : Hid (∀ j (hj : j < L.length), stpB L[j] = false → chE nm L = 90) := fun j hj h => Df.ch_no (def_nidx j hj h)
      have HST : Hid (∀ j (hj : j < L.length), stpB L[j] = (ownB L[j] || askB L[j])) := fun j hj => rfl
      obtain ⟨l1, l8⟩ := hlen
      generalize chE nm L = CE at *
      clear hnb hL hz hs hn
      go_enter Try.func19, Try.ntmps19
      go_wp2_with fail
      refine (HN.out _).mono ?_
      rintro e w1 ⟨rfl, hw⟩; obtain rfl := hw.symm
      go_wp2_with fail
      refine (HW.out _).mono ?_
      rintro e w1 ⟨rfl, hw⟩; obtain rfl := hw.symm
      have HG0 : Hid (Gr w (w.alloc (.cells #[.string nm, .slice ad L.length cap] 27))) := (Gr.refl _).alloc
      go_wp2
      go_loopw [19] (fun i wr => ∃ k : Nat, k ≤ L.length ∧ i = .int .i64 (k : Int) ∧ Gr w wr ∧ ∀ j (hj : j < L.length), j < k → stpB L[j] = true) (fun i _ => L.length - (intOf i).toNat)
      case atStart => exact ⟨0, by omega, rfl, HG0.out, fun j _ h => absurd h (by omega)⟩
      case round =>
        obtain ⟨k, hk, rfl, hg, hP⟩ := hrel
        have HG : Hid (Gr w wr) := hg
        have HP : Hid (∀ j (hj : j < L.length), j < k → stpB L[j] = true) := hP
        clear hg hP
        by_cases hlt : k < L.length
        · obtain ⟨b, off, rfl, hb, x0, x1, x2, x3, x4, x5, x6⟩ := StpsAt.at (HL.out.gr HG.out) k hlt
          have HB0 := Lib.hid (AccAt.new wr (.int .i64 L[k].k) (.string L[k].a) (.int .i64 L[k].n) (.int .i64 L[k].o) (.string L[k].u) (.int .i64 L[k].y) (.int .i64 L[k].v) 52 _ rfl)
          have HOk : Hid (∀ w', Calls Try.prog 32 #[.agg #[.int .i64 L[k].k, .string L[k].a, .int .i64 L[k].n, .int .i64 L[k].o, .string L[k].u, .int .i64 L[k].y, .int .i64 L[k].v]] w' fun e w2 => e = .returned (.bool (ownB L[k])) ∧ Gr w' w2) := HO.out k hlt
          have HAk : Hid (∀ w', Calls Try.prog 33 #[.agg #[.int .i64 L[k].k, .string L[k].a, .int .i64 L[k].n, .int .i64 L[k].o, .string L[k].u, .int .i64 L[k].y, .int .i64 L[k].v]] w' fun e w2 => e = .returned (.bool (askB L[k])) ∧ Gr w' w2) := HA.out k hlt
          have HSk := Lib.hid (HST.out k hlt)
          have HXk := Lib.hid (HX.out k hlt)
          generalize hSB : stpB L[k] = SB at *
          have HSB : Hid (∀ _h : k < L.length, stpB L[k] = SB) := fun _ => hSB
          clear hSB
          generalize ownB L[k] = OB at *
          generalize askB L[k] = AB at *
          generalize L[k].k = a0 at *
          generalize L[k].a = a1 at *
          generalize L[k].n = a2 at *
          generalize L[k].o = a3 at *
          generalize L[k].u = a4 at *
          generalize L[k].y = a5 at *
          generalize L[k].v = a6 at *
          go_wp2_with fail
          refine (HOk.out _).mono ?_
          rintro e w2 ⟨rfl, hg2⟩
          have HG2 : Hid (Gr w w2) := HG.out.trans ((Gr.refl _).alloc.trans hg2)
          obtain ⟨y0, y1, y2, y3, y4, y5, y6⟩ := (HB0.out.gr hg2).cells
          have yl := (HB0.out.gr hg2).lt
          clear hg2 x0 x1 x2 x3 x4 x5 x6
          cases OB with
          | true =>
            have HT : Hid (SB = true) := HSk.out
            go_wp2
            go_roundw
            case rel => exact ⟨k + 1, by omega, by go_num, HG2.out, fun j hj h => if e : j = k then by subst e; rw [HSB.out hj]; exact HT.out else HP.out j hj (by omega)⟩
            case measure => simp [intOf]; omega
          | false =>
            go_wp2_with fail
            refine (HAk.out _).mono ?_
            rintro e w3 ⟨rfl, hg3⟩
            have HG3 : Hid (Gr w w3) := HG2.out.trans hg3
            clear hg3
            cases AB with
            | true =>
              have HT : Hid (SB = true) := HSk.out
              go_wp2
              go_roundw
              case rel => exact ⟨k + 1, by omega, by go_num, HG3.out, fun j hj h => if e : j = k then by subst e; rw [HSB.out hj]; exact HT.out else HP.out j hj (by omega)⟩
              case measure => simp [intOf]; omega
            | false =>
              have HF : Hid (CE = 90) := HXk.out HSk.out
              go_wp2
              go_ret
              exact ⟨by rw [HF.out]; rfl, HG3.out⟩
        · obtain rfl : k = L.length := by omega
          have HF : Hid (CE = 0) := HY.out (fun j hj => HP.out j hj hj)
          go_wp2
          go_ret
          exact ⟨by rw [HF.out]; rfl, HG.out⟩
    · have HF : Hid (chE nm L = 90) := Df.ch_no (by
        cases hd : Df.defB nm L with
        | false => rfl
        | true => have := (Df.def_iff nm L).1 hd; exact absurd ⟨this.2.1, this.2.2.1⟩ hlen)
      rw [hnb] at HN
      rw [show (decide ((1 : Int) ≤ (L.length : Int)) && decide ((L.length : Int) ≤ 8)) = false by
        cases hq : (decide ((1 : Int) ≤ (L.length : Int)) && decide ((L.length : Int) ≤ 8)) with
        | false => rfl
        | true => simp only [Bool.and_eq_true, decide_eq_true_eq] at hq; exact absurd ⟨by omega, by omega⟩ hlen] at HW
      clear hnb hL hz hlen
      go_enter Try.func19, Try.ntmps19
      go_wp2_with fail
      refine (HN.out _).mono ?_
      rintro e w1 ⟨rfl, hw⟩; obtain rfl := hw.symm
      go_wp2_with fail
      refine (HW.out _).mono ?_
      rintro e w1 ⟨rfl, hw⟩; obtain rfl := hw.symm
      go_wp2
      go_ret
      exact ⟨by rw [HF.out]; rfl, (by repeat (first | exact Gr.refl _ | refine Gr.alloc ?_ | refine Gr.drew ?_ | refine Gr.trans ?_ (by assumption)))⟩
end Go.Proofs.Ytfobfpigbfepoaa
namespace Go.Proofs.Ytfobfpigbfepoaa
open Go.ChangeShapes Go.WideShapes Go.ChangeAt Go.RowKit
open Df (Stp)
theorem row_of {α : Type} {f : α → List Value} {c : Nat} (hc : ∀ x, (f x).length = c) (h0 : 0 < c) {w : World} {b off : Nat} {L : List α}
    (each : ∀ q (h : q < L.length) r u, (f L[q])[r]? = some u → w.cell? ⟨b, off + (q * c + r), none⟩ = some u) : RowAt f w (some ⟨b, off, none⟩) L := by
  intro j u hu
  have hj : j < (L.flatMap f).length := by
    rcases Nat.lt_or_ge j (L.flatMap f).length with h | h
    · exact h
    · rw [List.getElem?_eq_none h] at hu; cases hu
  rw [flat_len hc] at hj
  have hr : j % c < c := Nat.mod_lt _ h0
  have hq : j / c < L.length := Nat.div_lt_of_lt_mul (by rw [Nat.mul_comm]; exact hj)
  have e : j = j / c * c + j % c := by rw [Nat.mul_comm]; exact (Nat.div_add_mod j c).symm
  rw [e, flat_get hc L (j / c) hq (j % c) hr] at hu
  have h := each (j / c) hq (j % c) u hu
  rw [← e] at h
  exact ⟨b, off, rfl, World.block_lt_of_cell? w _ h, h⟩
theorem open_rows {α : Type} [Inhabited α] {f : α → List Value} {c : Nat} (hc : ∀ x, (f x).length = c) (h0 : 0 < c) {In : α → Prop} {t e : TypeId} (ht : Try.prog.underlying t = some (.slice e)) (ce : Try.prog.cellsOf e = c)
    {H : Type} {enc : TypeId × Value → H} {W : World} {base : Nat} {sp : Nat → Bool} {held : Bool} {fuel : Nat} {a0 : Option Addr} {len0 cap0 : Nat} {x : DataW H × List MemPlace}
    (elem : ∀ (n : Nat) (cs : List Value) (y : DataW H × List MemPlace), cs.length = c → DataW.trod enc Try.prog W base sp held n e cs = some y → ∃ z : α, cs = f z ∧ In z)
    (hf : DataW.trod enc Try.prog W base sp held fuel t [.slice a0 len0 cap0] = some x) :
    ∃ L : List α, len0 = L.length ∧ RowAt f W a0 L ∧ L.length ≤ 9223372036854775807 ∧ ∀ y ∈ L, In y := by
  rcases Deep.open_slice ht hf with ⟨hcs, _⟩ | ⟨a, len, cap, m, n, D, Pl, hcs, _, hl, hm, hmm, _, hx⟩
  · simp at hcs
    obtain ⟨rfl, rfl, rfl⟩ := hcs
    exact ⟨[], rfl, RowAt.nil, by simp, by simp⟩
  · simp at hcs
    obtain ⟨rfl, rfl, rfl⟩ := hcs
    have hlm : len0 ≤ m := by rw [hmm]; split <;> omega
    have each : ∀ i, i < len0 → ∃ z : α, (∀ r u, (f z)[r]? = some u → W.cell? (a.add (i * c + r)) = some u) ∧ In z := by
      intro i hi
      obtain ⟨cs, h1, h2⟩ := hx i (by omega)
      rw [ce] at h1
      obtain ⟨_, hlen, hcell⟩ := World.cells?_some h1
      obtain ⟨z, rfl, hz⟩ := elem n cs _ hlen h2
      refine ⟨z, fun r u hu => ?_, hz⟩
      have hr : r < c := by
        rcases Nat.lt_or_ge r (f z).length with h | h
        · rw [hc] at h; exact h
        · rw [List.getElem?_eq_none h] at hu; cases hu
      have c0 := hcell r hr
      rw [Deep.add_add] at c0
      rw [c0, ← hu]
    obtain ⟨g, hg⟩ := Deep.choose_lt each
    unfold maxLen at hm
    refine ⟨(List.range len0).map g, by simp, ?_, by simp; omega, ?_⟩
    · cases len0 with
      | zero => simp; exact RowAt.nil
      | succ l =>
        obtain ⟨b, off, spot⟩ := a
        have h00 : 0 < (f (g 0)).length := by rw [hc]; exact h0
        have hspot : spot = none := by
          have := World.cell?_spot ((hg 0 (by omega)).1 0 _ (List.getElem?_eq_getElem h00))
          simpa [Addr.add] using this
        subst hspot
        refine row_of hc h0 fun q hq r u hu => ?_
        have hq' : q < l + 1 := by simpa using hq
        have := (hg q hq').1 r u (by simpa using hu)
        rwa [Addr.add_lit] at this
    · intro y hy
      obtain ⟨j, hj, rfl⟩ := List.mem_map.1 hy
      exact (hg j (by simpa using hj)).2
set_option maxRecDepth 100000 in
theorem trod_act {H : Type} {enc : TypeId × Value → H} {W : World} {base : Nat} {sp : Nat → Bool} {held : Bool} {fuel : Nat} {u v q : Value} {x : DataW H × List MemPlace}
    (h : DataW.trod enc Try.prog W base sp held fuel 50 [u, v, q] = some x) : ∃ k s n, u = .int .i64 k ∧ v = .string s ∧ q = .int .i64 n ∧ inI k ∧ s.size ≤ 9223372036854775807 ∧ inI n := by
  obtain ⟨y0, y1, y2, n, _, _, t0, t1, t2⟩ := Deep.trod_struct3 Try.underlying50 h
  have k0 : Try.prog.cellsOf 3 = 1 := by kernel_rfl
  have k1 : Try.prog.cellsOf 9 = 1 := by kernel_rfl
  have k2 : Try.prog.cellsOf 2 = 1 := by kernel_rfl
  simp [k0, k1, k2] at t0 t1 t2
  obtain ⟨z0, e0, _, r0⟩ := DataW.trod_int Try.underlying3 t0
  obtain ⟨z1, e1, _, r1⟩ := DataW.trod_string Try.underlying9 t1
  obtain ⟨z2, e2, _, r2⟩ := DataW.trod_int Try.underlying2 t2
  simp at e0 e1 e2
  subst e0 e1 e2
  unfold maxLen at r1
  exact ⟨z0, z1, z2, rfl, rfl, rfl, rng_i64 r0, by omega, rng_i64 r2⟩
theorem trod_struct5 {P : Program} {H : Type} {enc : TypeId × Value → H} {w : World} {base : Nat} {spare : Nat → Bool} {held : Bool} {t : TypeId} {f0 f1 f2 f3 f4 : Field} {fuel : Nat} {cs : List Value} {x : DataW H × List MemPlace} (ht : P.underlying t = some (.struct #[f0, f1, f2, f3, f4])) (h : DataW.trod enc P w base spare held fuel t cs = some x) :
    ∃ y0 y1 y2 y3 y4 n, DataW.trod enc P w base spare held n f0.type ((cs.drop f0.offset).take (P.cellsOf f0.type)) = some y0 ∧
      DataW.trod enc P w base spare held n f1.type ((cs.drop f1.offset).take (P.cellsOf f1.type)) = some y1 ∧ DataW.trod enc P w base spare held n f2.type ((cs.drop f2.offset).take (P.cellsOf f2.type)) = some y2 ∧
      DataW.trod enc P w base spare held n f3.type ((cs.drop f3.offset).take (P.cellsOf f3.type)) = some y3 ∧ DataW.trod enc P w base spare held n f4.type ((cs.drop f4.offset).take (P.cellsOf f4.type)) = some y4 := by
  obtain ⟨xs, n, _, rfl, hl, hlen, hf⟩ := DataW.trod_struct ht h
  match xs, hlen with
  | [y0, y1, y2, y3, y4], _ => exact ⟨y0, y1, y2, y3, y4, n, by simpa using hf 0 f0 rfl, by simpa using hf 1 f1 rfl, by simpa using hf 2 f2 rfl, by simpa using hf 3 f3 rfl, by simpa using hf 4 f4 rfl⟩
set_option maxRecDepth 100000 in
theorem trod_stp {H : Type} {enc : TypeId × Value → H} {W : World} {base : Nat} {sp : Nat → Bool} {held : Bool} (n : Nat) (cs : List Value) (y : DataW H × List MemPlace) (hl : cs.length = 7)
    (h : DataW.trod enc Try.prog W base sp held n 52 cs = some y) : ∃ z : Stp, cs = stpC z ∧ inS z := by
  match cs, hl with
  | [v0, v1, v2, v3, v4, v5, v6], _ =>
    obtain ⟨y0, y1, y2, y3, y4, n, t0, t1, t2, t3, t4⟩ := trod_struct5 Try.underlying52 h
    have k0 : Try.prog.cellsOf 3 = 1 := by kernel_rfl
    have k1 : Try.prog.cellsOf 9 = 1 := by kernel_rfl
    have k3 : Try.prog.cellsOf 50 = 3 := by kernel_rfl
    simp [k0, k1, k3] at t0 t1 t2 t3 t4
    obtain ⟨o, e1, _, r1⟩ := DataW.trod_int Try.underlying3 t1
    obtain ⟨u, e2, _, r2⟩ := DataW.trod_string Try.underlying9 t2
    obtain ⟨ty, e3, _, r3⟩ := DataW.trod_int Try.underlying3 t3
    obtain ⟨wt, e4, _, r4⟩ := DataW.trod_int Try.underlying3 t4
    simp at e1 e2 e3 e4
    subst e1 e2 e3 e4
    obtain ⟨k, a, m, rfl, rfl, rfl, h1, h2, h3⟩ := trod_act t0
    unfold maxLen at r2
    exact ⟨⟨k, a, m, o, u, ty, wt⟩, rfl, h2, (by show u.size ≤ _; omega), h1, h3, rng_i64 r1, rng_i64 r3, rng_i64 r4⟩
theorem trod_struct2 {P : Program} {H : Type} {enc : TypeId × Value → H} {w : World} {base : Nat} {spare : Nat → Bool} {held : Bool} {t : TypeId} {f0 f1 : Field} {fuel : Nat} {cs : List Value} {x : DataW H × List MemPlace} (ht : P.underlying t = some (.struct #[f0, f1])) (h : DataW.trod enc P w base spare held fuel t cs = some x) :
    ∃ y0 y1 n, DataW.trod enc P w base spare held n f0.type ((cs.drop f0.offset).take (P.cellsOf f0.type)) = some y0 ∧ DataW.trod enc P w base spare held n f1.type ((cs.drop f1.offset).take (P.cellsOf f1.type)) = some y1 := by
  obtain ⟨xs, n, _, rfl, hl, hlen, hf⟩ := DataW.trod_struct ht h
  match xs, hlen with
  | [y0, y1], _ => exact ⟨y0, y1, n, by simpa using hf 0 f0 rfl, by simpa using hf 1 f1 rfl⟩
set_option maxRecDepth 100000 in
theorem trod_dm {H : Type} {enc : TypeId × Value → H} {W : World} {base : Nat} {sp : Nat → Bool} {held : Bool} (n : Nat) (cs : List Value) (y : DataW H × List MemPlace) (hl : cs.length = 2)
    (h : DataW.trod enc Try.prog W base sp held n 27 cs = some y) : ∃ z : Dm, cs = dmC z ∧ (StpsAt W z.ad z.L ∧ inD z) := by
  match cs, hl with
  | [v0, v1], _ =>
    obtain ⟨y0, y1, n, t0, t1⟩ := trod_struct2 Try.underlying27 h
    have k0 : Try.prog.cellsOf 9 = 1 := by kernel_rfl
    have k1 : Try.prog.cellsOf 25 = 1 := by kernel_rfl
    simp [k0, k1] at t0 t1
    obtain ⟨nm, e0, _, r0⟩ := DataW.trod_string Try.underlying9 t0
    simp at e0
    subst e0
    have s1 : ∃ a l c, v1 = .slice a l c := by
      rcases Deep.open_slice Try.underlying25 t1 with ⟨hcs, _⟩ | ⟨a, len, cap, _, _, _, _, hcs, _⟩
      · simp at hcs; exact ⟨_, _, _, hcs⟩
      · simp at hcs; exact ⟨_, _, _, hcs⟩
    obtain ⟨b, lb, cb, rfl⟩ := s1
    have hiA : Inhabited Stp := ⟨⟨0, ⟨#[]⟩, 0, 0, ⟨#[]⟩, 0, 0⟩⟩
    obtain ⟨L, rfl, h1, h2, h3⟩ := open_rows stpC_len (by decide) Try.underlying25 (by kernel_rfl) trod_stp t1
    unfold maxLen at r0
    exact ⟨⟨nm, b, cb, L⟩, rfl, h1, (by show nm.size ≤ _; omega), h2, h3⟩
set_option maxRecDepth 100000 in
theorem open_defs {H : Type} {enc : TypeId × Value → H} {W : World} {base : Nat} {v : Value} {d : DataW H} {ps : List MemPlace}
    (hok : Value.okWide Try.prog W .any base 22 v) (h : DataW.Trod enc Try.prog W 0 (fun _ => true) true 22 v d ps) :
    ∃ ad cap, ∃ D : List Dm, v = .slice ad D.length cap ∧ BkAt W ad D ∧ D.length ≤ 9223372036854775807 ∧ (ad = none → cap = 0) ∧ D.length ≤ cap ∧ cap ≤ 9223372036854775807 := by
  obtain ⟨a0, len0, cap0, rfl⟩ := okWide_slice Try.underlying22 hok
  obtain ⟨fuel, hf⟩ := h
  simp only [Value.cells] at hf
  have hiA : Inhabited Dm := ⟨⟨⟨#[]⟩, none, 0, []⟩⟩
  obtain ⟨D, rfl, h1, h2, h3⟩ := open_rows dmC_len (by decide) Try.underlying22 (by kernel_rfl) (trod_dm (W := W)) hf
  refine ⟨a0, cap0, D, rfl, ⟨h1, fun d hd => (h3 d hd).1, fun d hd => (h3 d hd).2⟩, h2, ?_⟩
  rcases Deep.open_slice Try.underlying22 hf with ⟨hcs, _⟩ | ⟨a, len, cap, m, n, D', Pl, hcs, _, hl, hm, hmm, _, hx⟩
  · simp at hcs
    obtain ⟨rfl, e, rfl⟩ := hcs
    exact ⟨fun _ => rfl, by simp [e], by omega⟩
  · simp at hcs
    obtain ⟨rfl, e, rfl⟩ := hcs
    unfold maxLen at hm
    exact ⟨(fun e => by cases e), by omega, by omega⟩
end Go.Proofs.Ytfobfpigbfepoaa
namespace Go.Proofs.Ytfobfpigbfepoaa.Lex
open _root_.Go.Proofs.Ytfobfpigbfepoaa.Act (letB digB sgnB nameB headB)
def bl1 (r : Bool) (b : UInt8) : Bool := if (b.toNat : Int) = 10 then false else if (b.toNat : Int) = 35 then true else r
def bad1 (r : Bool) (b : UInt8) : Bool := !bl1 r b && !decide ((b.toNat : Int) = 32) && !decide ((b.toNat : Int) = 9) && !decide ((b.toNat : Int) = 10)
def blf : Bool → List UInt8 → Option Bool
  | r, [] => some r
  | r, b :: t => if bad1 r b = true then none else blf (bl1 r b) t
def blanksB (l : List UInt8) : Bool := (blf false l).isSome
def pl (L : List UInt8) : Nat → List Tok → Prop
  | a, [] => a = L.length
  | a, x :: t => ∃ p : Nat, x.p = p ∧ a ≤ p ∧ p + x.t.size ≤ L.length ∧ (L.drop p).take x.t.size = x.t.data.toList ∧ blanksB ((L.drop a).take (p - a)) = true ∧ pl L (p + x.t.size) t
theorem may_kd {s : ByteArray} (h : kd s ≠ 0) : mayB (kd s) s = true := by
  unfold kd at h ⊢
  unfold mayB
  split
  · rename_i h1; simp [h1]
  · split
    · rename_i h1; simp [h1]
    · split
      · rename_i h1; simp [h1]
      · rename_i h1 h2 h3
        rw [if_neg h1, if_neg h2, if_neg h3] at h
        exact absurd rfl h
theorem okays : ∀ (f : Nat) (l : List UInt8) (a : Nat), l.length < f → (scn f l a).2 = none → ∃ I e, (scn f l a).1 = I ++ [e] ∧ endT e = true ∧ I.all okT = true := by
  intro f
  induction f with
  | zero => intro l a h; omega
  | succ f ih =>
    intro l a hf h
    cases l with
    | nil => exact ⟨[], _, rfl, by unfold endT; simp, rfl⟩
    | cons b t =>
      rw [List.length_cons] at hf
      unfold scn at h ⊢
      split at h
      · rename_i hb
        rw [if_pos hb]
        exact ih t (a + 1) (by omega) h
      · rename_i hb
        rw [if_neg hb]
        split at h
        · rename_i h35
          rw [if_pos h35]
          have := rem_pos t h35
          exact ih _ _ (by simp; omega) h
        · rename_i h35
          rw [if_neg h35]
          split at h
          · cases h
          · rename_i hk
            rw [if_neg hk]
            have := tl_pos b t
            obtain ⟨I, e, h1, h2, h3⟩ := ih _ _ (by simp; omega) h
            refine ⟨⟨kd (pc (b :: t)), pc (b :: t), a⟩ :: I, e, ?_, h2, ?_⟩
            · show _ :: (scn f _ _).1 = _
              rw [h1]; rfl
            · rw [List.all_cons, h3, Bool.and_true]
              exact may_kd hk
theorem okays_S (L : List UInt8) (h : (S L 0).2 = none) : ckE (S L 0).1 ≠ 80 := by
  obtain ⟨I, e, h1, h2, h3⟩ := okays (L.length + 1) L 0 (by omega) h
  show ckE (scn (L.length + 1) L 0).1 ≠ 80
  rw [h1, ck_snoc, if_pos h2, if_pos h3]
  split <;> decide
theorem tok_rng : ∀ (f : Nat) (l : List UInt8) (a : Nat), ∀ x ∈ (scn f l a).1, (∃ n : Nat, x.p = n ∧ n ≤ a + l.length) ∧ x.t.size ≤ l.length := by
  intro f
  induction f with
  | zero => intro l a x hx; simp [scn] at hx
  | succ f ih =>
    intro l a x hx
    cases l with
    | nil => simp [scn] at hx; subst hx; exact ⟨⟨a, rfl, by omega⟩, by show (0 : Nat) ≤ _; omega⟩
    | cons b t =>
      unfold scn at hx
      split at hx
      · obtain ⟨⟨n, h1, h2⟩, h3⟩ := ih t (a + 1) x hx
        exact ⟨⟨n, h1, by simp; omega⟩, by simp; omega⟩
      · split at hx
        · obtain ⟨⟨n, h1, h2⟩, h3⟩ := ih _ _ x hx
          have h4 := run_le remB (b :: t)
          rw [List.length_drop] at h2 h3
          exact ⟨⟨n, h1, by omega⟩, by omega⟩
        · split at hx
          · simp at hx
          · have h4 := tl_le (b :: t)
            rcases List.mem_cons.1 hx with rfl | hx
            · exact ⟨⟨a, rfl, by omega⟩, by show (pc (b :: t)).size ≤ _; rw [pc_size]; exact h4⟩
            · obtain ⟨⟨n, h1, h2⟩, h3⟩ := ih _ _ x hx
              rw [List.length_drop] at h2 h3
              exact ⟨⟨n, h1, by omega⟩, by omega⟩
end Go.Proofs.Ytfobfpigbfepoaa.Lex
