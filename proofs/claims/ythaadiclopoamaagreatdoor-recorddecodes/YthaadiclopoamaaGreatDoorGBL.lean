/- Parts of these proofs, laid together. -/
import Derived.Test.YthaadiclopoamaaGreatDoorGP
import Derived.Test.YthaadiclopoamaaGreatDoorGBI
import Derived.Test.YthaadiclopoamaaGreatDoorGBC
import Derived.Test.YthaadiclopoamaaGreatDoorGO
import Derived.Test.YthaadiclopoamaaGreatDoorGM
import Derived.Test.YthaadiclopoamaaGreatDoorGH
import Derived.Test.YthaadiclopoamaaGreatDoorGC
import Derived.Test.YthaadiclopoamaaGreatDoorGG
/- Plain mathematics: what the document's reader reads of bytes. -/
set_option maxRecDepth 100000
set_option maxHeartbeats 8000000
namespace Go.Proofs.YthaadiclopoamaaGreatDoor
open Df (Stp defB)
namespace Rc
/- a small number at a place, and the place behind -/
def tkB (l : List UInt8) (p : Nat) (ok : Bool) : Bool := ok && decide ((Pk.takeNum l p).2.2 = 0) && !decide (1000000 < (Pk.takeNum l p).1)
def tkV (l : List UInt8) (p : Nat) (ok : Bool) : Nat := if tkB l p ok = true then (Pk.takeNum l p).1 else 0
def tkP (l : List UInt8) (p : Nat) (ok : Bool) : Nat := if tkB l p ok = true then (Pk.takeNum l p).2.1 else 0
/- the places of a move's parts -/
def fp (l : List UInt8) : Nat := tkP l 0 true
def fp1 (l : List UInt8) : Nat := tkP l (fp l) true
def fx2 (l : List UInt8) : List UInt8 × Nat × Nat := Pk.takeText l (fp1 l)
def fo3 (l : List UInt8) : Bool := tkB l (fp l) true && decide ((fx2 l).2.2 = 0)
def fp3 (l : List UInt8) : Nat := tkP l (fx2 l).2.1 (fo3 l)
def fo4 (l : List UInt8) : Bool := tkB l (fx2 l).2.1 (fo3 l)
def fp4 (l : List UInt8) : Nat := tkP l (fp3 l) (fo4 l)
def fo5 (l : List UInt8) : Bool := tkB l (fp3 l) (fo4 l)
def fx5 (l : List UInt8) : List UInt8 × Nat × Nat := Pk.takeText l (fp4 l)
def rfM (l : List UInt8) : Mv := ⟨(tkV l (fp l) true : Int), ivR (fx2 l).1, ivN (fx2 l).1, ivL (fx2 l).1, (tkV l (fx2 l).2.1 (fo3 l) : Int), (tkV l (fp3 l) (fo4 l) : Int), tN (fx5 l).1, tL (fx5 l).1⟩
def fx1 (l : List UInt8) : List UInt8 × Nat × Nat := Pk.takeText l (fp l)
def fk (l : List UInt8) : Nat := tkV l 0 true
/- what is read, and whether something is -/
def rfR (l : List UInt8) : Rc :=
 if fk l = 1 then (if fo5 l = true then ⟨1, rfM l, ⟨#[]⟩, 0, ⟨#[]⟩, [], ⟨#[]⟩⟩ else ⟨1, zM, ⟨#[]⟩, 0, ⟨#[]⟩, [], ⟨#[]⟩⟩)
 else if fk l = 2 /\ (fx1 l).2.2 = 0 then ⟨2, zM, ⟨(fx1 l).1.toArray⟩, Pk.unsg (Pk.takeNum l (fx1 l).2.1).1, ⟨#[]⟩, [], ⟨#[]⟩⟩
 else if fk l = 3 /\ (fx1 l).2.2 = 0 then ⟨3, zM, ⟨#[]⟩, 0, tN (fx1 l).1, tL (fx1 l).1, ⟨#[]⟩⟩
 else if fk l = 5 /\ (fx1 l).2.2 = 0 then ⟨5, zM, ⟨#[]⟩, 0, ⟨#[]⟩, [], ⟨(fx1 l).1.toArray⟩⟩
 else ⟨(fk l : Int), zM, ⟨#[]⟩, 0, ⟨#[]⟩, [], ⟨#[]⟩⟩
def rfB (l : List UInt8) : Bool :=
 if tkB l 0 true = false then false
 else if fk l = 4 then true
 else if fk l = 1 then fo5 l && decide ((fx5 l).2.2 = 0) && parB (fx2 l).1
 else if fk l = 2 then decide ((fx1 l).2.2 = 0) && decide ((Pk.takeNum l (fx1 l).2.1).2.2 = 0)
 else decide ((fx1 l).2.2 = 0)

theorem tk_of {l : List UInt8} {p : Nat} {z q : Nat} (h : Pk.takeNum l p = (z, q, 0)) (hz : z <= 1000000) : tkB l p true = true /\ tkV l p true = z /\ tkP l p true = q := by
 have hb : tkB l p true = true := by
  unfold tkB; rw [h]; simp; omega
 unfold tkV tkP
 rw [if_pos hb, if_pos hb, h]
 exact ⟨hb, rfl, rfl⟩
theorem rf_back {x : Rc} (h : rcB x = true) : rfB (bd x) = true /\ rfR (bd x) = x := by
 rcases rec_kinds h with ⟨m, rfl, hm⟩ | ⟨a, v, rfl, ha, hv⟩ | ⟨d, S, rfl, hd⟩ | rfl | ⟨t, rfl, ht⟩
 ·obtain ⟨y1, _, _⟩ := nv_at [] (bdM m) (bd ⟨1, m, ⟨#[]⟩, 0, ⟨#[]⟩, [], ⟨#[]⟩⟩) 1 0 (by rw [bd1]; rfl) rfl (by decide) (by decide)
  obtain ⟨⟨p1, p2, p3, p4, e⟩, _⟩ := mv_at (nm 1) (bd ⟨1, m, ⟨#[]⟩, 0, ⟨#[]⟩, [], ⟨#[]⟩⟩) m ([] ++ nm 1).length (bd1 m) rfl hm
  obtain ⟨hk, hi, hd, hy, hs⟩ := may_move hm
  generalize bd ⟨1, m, ⟨#[]⟩, 0, ⟨#[]⟩, [], ⟨#[]⟩⟩ = l at *
  obtain ⟨b0, v0, q0⟩ := tk_of y1 (by decide)
  have k0 : fk l = 1 := v0
  have P0 : fp l = ([] ++ nm 1).length := q0
  obtain ⟨b1, v1, q1⟩ := tk_of e.e1 (by omega)
  rw [<- P0] at b1 v1 q1
  have P1 : fp1 l = p1 := q1
  have X2 : fx2 l = (Idn.showT m.r m.n m.L, p2, 0) := by unfold fx2; rw [P1]; exact e.e2
  have O3 : fo3 l = true := by unfold fo3; rw [b1, X2]; rfl
  obtain ⟨b3, v3, q3⟩ := tk_of e.e3 (by omega)
  have V3 : tkV l (fx2 l).2.1 (fo3 l) = m.s.toNat := by rw [X2, O3]; exact v3
  have P3 : fp3 l = p3 := by unfold fp3; rw [X2, O3]; exact q3
  have O4 : fo4 l = true := by unfold fo4; rw [X2, O3]; exact b3
  obtain ⟨b4, v4, q4⟩ := tk_of e.e4 (by omega)
  have V4 : tkV l (fp3 l) (fo4 l) = m.y.toNat := by rw [P3, O4]; exact v4
  have P4 : fp4 l = p4 := by unfold fp4; rw [P3, O4]; exact q4
  have O5 : fo5 l = true := by unfold fo5; rw [P3, O4]; exact b4
  obtain ⟨q, e5⟩ := e.e5
  have X5 : fx5 l = (dt m.d m.S, q, 0) := by unfold fx5; rw [P4]; exact e5
  obtain ⟨i0, i1, i2, i3⟩ := iv_at m.r m.n m.L hi
  obtain ⟨d1, d2⟩ := dt_back (df_or hd)
  constructor
  ·unfold rfB
   rw [b0, k0, if_neg (by decide), if_neg (by decide), if_pos rfl, O5, X5, X2, i0]; rfl
  ·unfold rfR
   rw [k0, if_pos rfl, if_pos O5]
   have : rfM l = m := by
    unfold rfM
    rw [v1, V3, V4, X2, X5, i1, i2, i3, d1, d2, Int.toNat_of_nonneg (by omega), Int.toNat_of_nonneg (by omega), Int.toNat_of_nonneg (by omega)]
   rw [this]
 ·have hsz : a.data.toList.length = a.size := by simp
  have hn := (Act.name_pos ha).2
  obtain ⟨y1, _, s1⟩ := nv_at [] (Pk.text a.data.toList ++ Pk.num (Pk.sgn v)) (bd ⟨2, zM, a, v, ⟨#[]⟩, [], ⟨#[]⟩⟩) 2 0 (by rw [bd2]; rfl) rfl (by decide) (by decide)
  obtain ⟨x2, _, s2⟩ := tv_at (nm 2) (Pk.num (Pk.sgn v)) (bd ⟨2, zM, a, v, ⟨#[]⟩, [], ⟨#[]⟩⟩) a.data.toList ([] ++ nm 2).length (bd2 a v) rfl (by omega)
  obtain ⟨x3, v3⟩ := av_at (nm 2 ++ Pk.text a.data.toList) (bd ⟨2, zM, a, v, ⟨#[]⟩, [], ⟨#[]⟩⟩) v (nm 2 ++ Pk.text a.data.toList).length (by rw [bd2]; simp) rfl hv
  generalize bd ⟨2, zM, a, v, ⟨#[]⟩, [], ⟨#[]⟩⟩ = l at *
  obtain ⟨b0, v0, q0⟩ := tk_of y1 (by decide)
  have k0 : fk l = 2 := v0
  have P0 : fp l = ([] ++ nm 2).length := q0
  have X1 : fx1 l = (a.data.toList, (nm 2 ++ Pk.text a.data.toList).length, 0) := by unfold fx1; rw [P0]; exact x2
  unfold av at v3
  constructor
  ·unfold rfB
   rw [b0, k0, if_neg (by decide), if_neg (by decide), if_neg (by decide), if_pos rfl, X1]
   simp only
   rw [x3]; rfl
  ·unfold rfR
   rw [k0, if_neg (by decide), X1, if_pos ⟨rfl, rfl⟩]
   simp only
   rw [v3]
 ·obtain ⟨y1, _, s1⟩ := nv_at [] (Pk.text (dt d S)) (bd ⟨3, zM, ⟨#[]⟩, 0, d, S, ⟨#[]⟩⟩) 3 0 (by rw [bd3]; rfl) rfl (by decide) (by decide)
  have hl := dt_le d S
  obtain ⟨x2, _, s2⟩ := tv_at (nm 3) [] (bd ⟨3, zM, ⟨#[]⟩, 0, d, S, ⟨#[]⟩⟩) (dt d S) ([] ++ nm 3).length (by rw [bd3]; simp) rfl (by omega)
  obtain ⟨d1, d2⟩ := dt_back (Or.inl hd)
  generalize bd ⟨3, zM, ⟨#[]⟩, 0, d, S, ⟨#[]⟩⟩ = l at *
  obtain ⟨b0, v0, q0⟩ := tk_of y1 (by decide)
  have k0 : fk l = 3 := v0
  have P0 : fp l = ([] ++ nm 3).length := q0
  have X1 : fx1 l = (dt d S, (nm 3 ++ Pk.text (dt d S)).length, 0) := by unfold fx1; rw [P0]; exact x2
  constructor
  ·unfold rfB
   rw [b0, k0, if_neg (by decide), if_neg (by decide), if_neg (by decide), if_neg (by decide), X1]; rfl
  ·unfold rfR
   rw [k0, if_neg (by decide), X1, if_neg (by simp), if_pos ⟨rfl, rfl⟩]
   simp only
   rw [d1, d2]
 ·obtain ⟨y1, _, s1⟩ := nv_at [] [] (bd ⟨4, zM, ⟨#[]⟩, 0, ⟨#[]⟩, [], ⟨#[]⟩⟩) 4 0 (by rw [bd4]; rfl) rfl (by decide) (by decide)
  generalize bd ⟨4, zM, ⟨#[]⟩, 0, ⟨#[]⟩, [], ⟨#[]⟩⟩ = l at *
  obtain ⟨b0, v0, q0⟩ := tk_of y1 (by decide)
  have k0 : fk l = 4 := v0
  constructor
  ·unfold rfB
   rw [b0, k0]; rfl
  ·unfold rfR
   rw [k0, if_neg (by decide), if_neg (by simp), if_neg (by simp), if_neg (by simp)]; rfl
 ·have hsz : t.data.toList.length = t.size := by simp
  obtain ⟨y1, _, s1⟩ := nv_at [] (Pk.text t.data.toList) (bd ⟨5, zM, ⟨#[]⟩, 0, ⟨#[]⟩, [], t⟩) 5 0 (by rw [bd5]; rfl) rfl (by decide) (by decide)
  obtain ⟨x2, _, s2⟩ := tv_at (nm 5) [] (bd ⟨5, zM, ⟨#[]⟩, 0, ⟨#[]⟩, [], t⟩) t.data.toList ([] ++ nm 5).length (by rw [bd5]; simp) rfl (by omega)
  generalize bd ⟨5, zM, ⟨#[]⟩, 0, ⟨#[]⟩, [], t⟩ = l at *
  obtain ⟨b0, v0, q0⟩ := tk_of y1 (by decide)
  have k0 : fk l = 5 := v0
  have P0 : fp l = ([] ++ nm 5).length := q0
  have X1 : fx1 l = (t.data.toList, (nm 5 ++ Pk.text t.data.toList).length, 0) := by unfold fx1; rw [P0]; exact x2
  constructor
  ·unfold rfB
   rw [b0, k0, if_neg (by decide), if_neg (by decide), if_neg (by decide), if_neg (by decide), X1]; rfl
  ·unfold rfR
   rw [k0, if_neg (by decide), X1, if_neg (by simp), if_neg (by simp), if_pos ⟨rfl, rfl⟩]
/- both readers come to the same answer, once what is read is laid again -/
theorem rf_dec {l : List UInt8} : dcB l = (rfB l && rcB (rfR l) && decide (bd (rfR l) = l)) /\ (dcB l = true -> rfR l = rd l) := by
 cases hb : dcB l with
 | true =>
  have h' := hb
  unfold dcB at h'
  simp only [Bool.and_eq_true, decide_eq_true_eq] at h'
  obtain ⟨r1, r2⟩ := rf_back h'.1
  rw [h'.2] at r1 r2
  rw [r1, r2, h'.1, h'.2]
  exact ⟨by simp, fun _ => rfl⟩
 | false =>
  refine ⟨?_, fun h => by cases h⟩
  cases h1 : rfB l with
  | false => rfl
  | true =>
   cases h2 : rcB (rfR l) with
   | false => rfl
   | true =>
    by_cases h3 : bd (rfR l) = l
    ·have := rd_back h2
     rw [h3] at this
     unfold dcB at hb
     rw [this, h2, h3] at hb
     simp at hb
    ·rw [decide_eq_false h3]; rfl
end Rc
end Go.Proofs.YthaadiclopoamaaGreatDoor
/- The document's reading of definitions: is, kind, small, maybe, syntax. -/
set_option maxRecDepth 100000
set_option maxHeartbeats 8000000
namespace Go.Proofs.YthaadiclopoamaaGreatDoor
open Go.RowKit
open Lex (Tok valE valB)
open Df (Stp tk isT kw wk sm opt Gd)

theorem refIs_any (x : Tok) (k : Int) (s : ByteArray) (w : World) : Calls Tryz.prog 142 #[.agg #[.int .i64 x.k, .string x.t, .int .i64 x.p], .int .i64 k, .string s] w fun e w' => e = .returned (.bool (isT x k s)) /\ Gr w w' := by
 have ht := text_eq x.t s.data.toList
 rw [Lex.bytes_list, <- show s.toList = s.data.toList from ByteArray.toList_eq s] at ht
 have HB : Hid (isT x k s = (decide (x.k = k) && decide (x.t = s))) := rfl
 generalize isT x k s = IB at *
 by_cases h1 : x.k = k
 ·have e1 : (x.k == k) = true := by simpa using h1
  rw [decide_eq_true h1] at HB
  by_cases h2 : x.t = s
  ·rw [decide_eq_true h2] at HB ht
   have HF : Hid (IB = true) := HB.out
   clear HB h1 h2
   go_enter Tryz.func142, Tryz.ntmps142
   go_wp2
   go_ret
   exact ⟨by rw [HF.out]; rfl, (by repeat(first|exact Gr.r _|refine Gr.a ?_|refine Gr.d ?_|refine Gr.t ?_ (by assumption)))⟩
  ·rw [decide_eq_false h2] at HB ht
   have HF : Hid (IB = false) := HB.out
   clear HB h1 h2
   go_enter Tryz.func142, Tryz.ntmps142
   go_wp2
   go_ret
   exact ⟨by rw [HF.out]; rfl, (by repeat(first|exact Gr.r _|refine Gr.a ?_|refine Gr.d ?_|refine Gr.t ?_ (by assumption)))⟩
 ·have e1 : (x.k == k) = false := by simpa using h1
  rw [decide_eq_false h1] at HB
  have HF : Hid (IB = false) := HB.out
  clear HB h1 ht
  go_enter Tryz.func142, Tryz.ntmps142
  go_wp2
  go_ret
  exact ⟨by rw [HF.out]; rfl, (by repeat(first|exact Gr.r _|refine Gr.a ?_|refine Gr.d ?_|refine Gr.t ?_ (by assumption)))⟩

theorem kw_none {s : ByteArray} (h : ∀ j : Nat, 1 <= j -> j < 5 -> wk (j : Int) ≠ s) : kw s = 0 := by
 by_cases h0 : kw s = 0
 ·exact h0
 ·have hr := Df.kw_range s
  have := wk_kw s h0
  refine absurd this ?_
  have e : kw s = ((kw s).toNat : Int) := by omega
  rw [e]
  exact h _ (by omega) (by omega)

theorem refKind_any (s : ByteArray) (w : World) : Calls Tryz.prog 162 #[.string s] w fun e w' => e = .returned (.int .i64 (kw s)) /\ Gr w w' := by
 have HW : Hid (∀ w' : World, Calls Tryz.prog 67 #[] w' fun e w2 => e = .returned (.slice (some ⟨w'.heap.size, 0, none⟩) 5 5) /\ StrsIn w2 w'.heap.size [⟨#[]⟩, Df.wDebit, Df.wCredit, Df.wReserve, Df.wRelease] /\ w'.heap.size < w2.heap.size /\ Gr w' w2) := refWords_any
 have HN : Hid ((∀ j : Nat, 1 <= j -> j < 5 -> wk (j : Int) ≠ s) -> kw s = 0) := kw_none
 have HY : Hid (∀ j : Nat, 1 <= j -> j < 5 -> wk (j : Int) = s -> kw s = j) := fun j h1 h4 e => by rw [<- e, kw_wk _ (by omega) (by omega)]
 generalize kw s = KW at *
 go_enter Tryz.func162, Tryz.ntmps162
 go_wp2_with fail
 refine (HW.out _).mono ?_
 rintro e w1 ⟨rfl, hst, hlt, hg⟩
 have HS1 := Lib.hid hst
 have HG1 : Hid (Gr w w1) := hg
 clear hst hg HW
 go_wp2
 go_loopw [4] (fun i wr => ∃ k : Nat, 1 <= k /\ k <= 5 /\ i = .int .i64 (k : Int) /\ wr = w1 /\ ∀ j : Nat, 1 <= j -> j < k -> wk (j : Int) ≠ s) (fun i _ => 5 - (intOf i).toNat)
 case atStart => exact ⟨1, by omega, by omega, rfl, rfl, fun j h1 h2 => absurd h2 (by omega)⟩
 case round =>
  obtain ⟨k, hk1, hk5, rfl, hwr, hA⟩ := hrel
  have HA : Hid (∀ j : Nat, 1 <= j -> j < k -> wk (j : Int) ≠ s) := hA
  clear hA
  obtain ⟨wz, rfl⟩ : ∃ x, x = wr := ⟨_, rfl⟩
  by_cases hlt5 : k < 5
  ·have hc := words_at HS1.out k hk1 (by omega)
   rw [<- hwr] at hc hlt
   have ht := text_eq (wk (k : Int)) s.data.toList
   rw [Lex.bytes_list, <- show s.toList = s.data.toList from ByteArray.toList_eq s] at ht
   have h5i : (k : Int) < 5 := by omega
   have HYk := HY.out k hk1 hlt5
   generalize hX : wk (k : Int) = X at *
   by_cases hx : X = s
   ·rw [decide_eq_true hx] at ht
    have HF : Hid (KW = (k : Int)) := HYk hx
    have HGz : Hid (Gr w wz) := by rw [hwr]; exact HG1.out
    clear hx hX HYk hwr
    go_wp2
    go_ret
    exact ⟨by rw [HF.out]; rfl, HGz.out⟩
   ·rw [decide_eq_false hx] at ht
    have HX : Hid (wk (k : Int) ≠ s) := by rw [hX]; exact hx
    have HWR := Lib.hid hwr
    clear hx hX HYk hwr
    go_wp2
    go_roundw
    case rel => exact ⟨k + 1, by omega, by omega, by go_num, HWR.out, fun j h1 h2 => if e : j = k then by subst e; exact HX.out else HA.out j h1 (by omega)⟩
    case measure => simp [intOf]; omega
  ·obtain rfl : k = 5 := by omega
   have HF : Hid (KW = 0) := HN.out HA.out
   have HGz : Hid (Gr w wz) := by rw [hwr]; exact HG1.out
   clear hwr
   go_wp2
   go_ret
   exact ⟨by rw [HF.out]; rfl, HGz.out⟩

theorem rdSmall_any (x : Tok) (w : World) (hk : x.k = 2) (hs : x.t.size <= 16) : Calls Tryz.prog 163 #[.agg #[.int .i64 x.k, .string x.t, .int .i64 x.p]] w fun e w' => e = .returned (.int .i64 (sm x.t)) /\ Gr w w' := by
 have HV : Hid (∀ w', Calls Tryz.prog 165 #[.agg #[.int .i64 x.k, .string x.t, .int .i64 x.p]] w' fun e w2 => e = .returned (.tuple #[.int .i64 (valE x.k x.t), .bool (valB x.k x.t)]) /\ Gr w' w2) := fun w' => refValue_any x.k x.t x.p w' (by omega)
 have HS : Hid (sm x.t = if 9 < x.t.size then -1 else valE x.k x.t) := by show _ = _; rw [hk]; rfl
 generalize sm x.t = SM at *
 generalize valE x.k x.t = VE at *
 generalize valB x.k x.t = VB at *
 clear hk
 by_cases h9 : 9 < x.t.size
 ·have h9i : (9 : Int) < (x.t.size : Int) := by omega
  rw [if_pos h9] at HS
  clear HV
  go_enter Tryz.func163, Tryz.ntmps163
  go_wp2
  go_ret
  exact ⟨by rw [HS.out]; rfl, (by repeat(first|exact Gr.r _|refine Gr.a ?_|refine Gr.d ?_|refine Gr.t ?_ (by assumption)))⟩
 ·have h9i : ¬ (9 : Int) < (x.t.size : Int) := by omega
  rw [if_neg h9] at HS
  go_enter Tryz.func163, Tryz.ntmps163
  go_wp2_with fail
  refine (HV.out _).mono ?_
  rintro e w1 ⟨rfl, hg⟩
  have HG1 : Hid (Gr w w1) := (Gr.refl _).alloc.trans hg
  clear hg
  go_wp2
  go_ret
  exact ⟨by rw [HS.out]; rfl, HG1.out⟩

def optI (o : Option Int) : Int := match o with | none => 0 | some n => n
theorem refMaybe_any (T : List Tok) (ad : Option Addr) (cap : Nat) (i : Nat) (wd : ByteArray) (n : Int) (w : World) (hT : ToksAt w ad T) (hG : Gd T) (hi : i < T.length) (hn : T.length <= 5000) :
  Calls Tryz.prog 164 #[.slice ad T.length cap, .int .i64 (i : Int), .string wd, .int .i64 n] w fun e w' => e = .returned (.tuple #[.int .i64 (optI (opt T i wd n).2), .int .i64 ((opt T i wd n).1 : Int), .bool (opt T i wd n).2.isSome]) /\ Gr w w' := by
 have HI : Hid (∀ w', Calls Tryz.prog 142 #[.agg #[.int .i64 (tk T i).k, .string (tk T i).t, .int .i64 (tk T i).p], .int .i64 1, .string wd] w' fun e w2 => e = .returned (.bool (isT (tk T i) 1 wd)) /\ Gr w' w2) := fun w' => refIs_any (tk T i) 1 wd w'
 obtain ⟨b, off, rfl, hb, c0, c1, c2⟩ := hT i hi
 rw [<- Df.tk_get T i hi] at c0 c1 c2
 cases h1 : isT (tk T i) 1 wd with
 | true =>
  rw [h1] at HI
  have hx := hG.next (i := i) (by rw [((Df.isT_iff _ _ _).1 h1).1]; decide)
  have hT1 := Lib.hid hT
  obtain ⟨b', off', e', _, d0, d1, d2⟩ := hT (i + 1) hx
  cases e'
  rw [<- Df.tk_get T (i + 1) hx] at d0 d1 d2
  have e1 : wrap64 ((i : Int) + 1) = ((i + 1 : Nat) : Int) := by unfold wrap64; omega
  have e2 : wrap64 ((i : Int) + 2) = ((i + 2 : Nat) : Int) := by unfold wrap64; omega
  have hj1 : ((i + 1 : Nat) : Int) < (T.length : Int) := by omega
  by_cases h2 : (tk T (i + 1)).k = 2
  ·have HO : Hid (opt T i wd n = (i + 2, some (sm (tk T (i + 1)).t))) := by show _ = _; unfold Df.opt; rw [if_pos h1, if_pos h2]
   have HSM : Hid (∀ w', Calls Tryz.prog 163 #[.agg #[.int .i64 (tk T (i + 1)).k, .string (tk T (i + 1)).t, .int .i64 (tk T (i + 1)).p]] w' fun e w2 => e = .returned (.int .i64 (sm (tk T (i + 1)).t)) /\ Gr w' w2) := fun w' => rdSmall_any _ w' h2 (hG.size _)
   have e3 : ((tk T (i + 1)).k != 2) = false := by simpa using h2
   generalize opt T i wd n = OO at *
   generalize sm (tk T (i + 1)).t = SM at *
   generalize tk T i = x at *
   generalize tk T (i + 1) = y at *
   obtain ⟨xk, xt, xp⟩ := x
   obtain ⟨yk, yt, yp⟩ := y
   simp only at *
   subst h2
   clear h1 hT hG e1 e2 e3 hj1
   go_enter Tryz.func164, Tryz.ntmps164
   go_wp2_with fail
   refine (HI.out _).mono ?_
   rintro e w1 ⟨rfl, hg⟩
   have HG1 : Hid (Gr w w1) := hg
   replace d0 := hg.keep d0
   replace d1 := hg.keep d1
   replace d2 := hg.keep d2
   have hb1 : b < w1.heap.size := Nat.lt_of_lt_of_le hb hg.size
   clear hg c0 c1 c2
   go_wp2_with fail
   refine (HSM.out _).mono ?_
   rintro e w2 ⟨rfl, hg⟩
   have HG2 : Hid (Gr w w2) := HG1.out.trans hg
   clear hg
   go_wp2
   go_ret3
   exact ⟨by rw [HO.out]; rfl, HG2.out⟩
  ·have HO : Hid (opt T i wd n = (i + 1, none)) := by show _ = _; unfold Df.opt; rw [if_pos h1, if_neg h2]
   have e3 : ((tk T (i + 1)).k != 2) = true := by simpa using h2
   generalize opt T i wd n = OO at *
   generalize tk T i = x at *
   generalize tk T (i + 1) = y at *
   obtain ⟨xk, xt, xp⟩ := x
   obtain ⟨yk, yt, yp⟩ := y
   simp only at *
   clear h1 hT hG h2 e1 e2 hj1
   go_enter Tryz.func164, Tryz.ntmps164
   go_wp2_with fail
   refine (HI.out _).mono ?_
   rintro e w1 ⟨rfl, hg⟩
   have HG1 : Hid (Gr w w1) := hg
   replace d0 := hg.keep d0
   replace d1 := hg.keep d1
   replace d2 := hg.keep d2
   have hb1 : b < w1.heap.size := Nat.lt_of_lt_of_le hb hg.size
   clear hg c0 c1 c2
   go_wp2
   go_ret3
   exact ⟨by rw [HO.out]; rfl, HG1.out⟩
 | false =>
  rw [h1] at HI
  have HO : Hid (opt T i wd n = (i, some n)) := by show _ = _; unfold Df.opt; rw [h1]; rfl
  generalize opt T i wd n = OO at *
  generalize tk T i = x at *
  obtain ⟨xk, xt, xp⟩ := x
  simp only at *
  clear h1 hT hG
  go_enter Tryz.func164, Tryz.ntmps164
  go_wp2_with fail
  refine (HI.out _).mono ?_
  rintro e w1 ⟨rfl, hg⟩
  have HG1 : Hid (Gr w w1) := hg
  clear hg c0 c1 c2
  go_wp2
  go_ret3
  exact ⟨by rw [HO.out]; rfl, HG1.out⟩

theorem refSyntax_any (T : List Tok) (ad : Option Addr) (cap : Nat) (i : Nat) (w : World) (hT : ToksAt w ad T) (hi : i < T.length) (_hn : T.length <= 5000) :
  Calls Tryz.prog 143 #[.slice ad T.length cap, .int .i64 (i : Int)] w fun e w' => e = .returned (.tuple #[.agg #[.string ⟨#[]⟩, .slice none 0 0], .int .i64 0, .agg #[.int .i64 81, .int .i64 (tk T i).p]]) /\ Gr w w' := by
 obtain ⟨b, off, rfl, hb, c0, c1, c2⟩ := hT i hi
 rw [<- Df.tk_get T i hi] at c0 c1 c2
 have HXX : Hid (∀ x : Tok, tk T i = x -> (tk T i).p = x.p) := fun x e => by rw [e]
 generalize hx : tk T i = x at *
 have HX2 := Lib.hid hx
 obtain ⟨xk, xt, xp⟩ := x
 simp only at *
 clear hT hx
 go_enter Tryz.func143, Tryz.ntmps143
 go_wp2
 go_region
 go_wp2
 exact bodyPost_ret (v := .tuple #[.agg #[.string ⟨#[]⟩, .slice none 0 0], .int .i64 0, .agg #[.int .i64 81, .int .i64 xp]]) (by simp [results, Tryz.results143, go_sem, *]) rfl ⟨rfl, (by (with_reducible repeat' (first | exact Gr.refl _ | refine Gr.set ?_ _ ?_ _ | refine Gr.alloc ?_ | refine Gr.drew ?_ | refine Gr.trans ?_ (by assumption))) <;> (first | (simp; done) | (simp; omega) | omega))⟩
end Go.Proofs.YthaadiclopoamaaGreatDoor
/- The document's Check of tokens. -/
set_option maxRecDepth 100000
set_option maxHeartbeats 8000000
namespace Go.Proofs.YthaadiclopoamaaGreatDoor
open Go.RowKit
open _root_.Go.Proofs.YthaadiclopoamaaGreatDoor.Act (letB digB sgnB nameB)
open Lex (Tok ckE okT endT szs jz numB sigB)

theorem lRefCheck_any (T : List Tok) (ad : Option Addr) (cap : Nat) (w : World) (hT : ToksAt w ad T) (hn : T.length <= 5000) (hz : ∀ x ∈ T, x.t.size <= 9223372036854775807) :
  Calls Tryz.prog 141 #[.slice ad T.length cap] w fun e w' => e = .returned (.int .i64 (ckE T)) /\ Gr w w' := by
 rcases List.eq_nil_or_concat T with rfl | ⟨I, x, rfl⟩
 ·rw [Lex.ck_none]
  go_enter Tryz.func141, Tryz.ntmps141
  go_wp2
  go_ret
  exact ⟨rfl, Gr.refl _⟩
 rw [List.concat_eq_append] at *
 have HK : Hid (ckE (I ++ [x]) = if endT x = true then (if I.all okT = true then (if 2000 < jz I then 3 else 0) else 80) else 80) := Lex.ck_snoc I x
 have hlen : (I ++ [x]).length = I.length + 1 := by simp
 rw [hlen] at hn ⊢
 obtain ⟨b, off, rfl, hb, k0, k1, k2⟩ := hT I.length (by rw [hlen]; omega)
 clear k2
 rw [List.getElem_append_right (Nat.le_refl _)] at k0 k1
 simp only [Nat.sub_self, List.getElem_cons_zero] at k0 k1
 have HT : Hid (∀ j (h : j < I.length), w.cell? ⟨b, off + j * 3, none⟩ = some (.int .i64 I[j].k) /\ w.cell? ⟨b, off + j * 3 + 1, none⟩ = some (.string I[j].t) /\ w.cell? ⟨b, off + j * 3 + 2, none⟩ = some (.int .i64 I[j].p)) := by
  intro j h
  obtain ⟨b', off', e, _, h1, h2, h3⟩ := hT j (by rw [hlen]; omega)
  cases e
  rw [List.getElem_append_left h] at h1 h2 h3
  exact ⟨h1, h2, h3⟩
 have HZ : Hid (∀ j (h : j < I.length), I[j].t.size <= 9223372036854775807) := fun j h => hz _ (by simp)
 have hw1 : wrap64 ((I.length : Int) + 1 - 1) = (I.length : Int) := by unfold wrap64; omega
 have hne0 : (((I.length : Int) + 1) == 0) = false := by rw [beq_eq_false_iff_ne]; omega
 clear hT hz hlen
 by_cases he1 : x.k = 0
 ·have e1 : (x.k != 0) = false := by simpa using he1
  have hb0 := text_ne x.t []
  rw [show (⟨[].toArray⟩ : ByteArray) = ⟨#[]⟩ from rfl] at hb0
  by_cases he2 : x.t = ⟨#[]⟩
  ·rw [decide_eq_true he2, show (!true) = false from rfl] at hb0
   have hb2 : (x.t.toList == []) = true := by simpa using hb0
   have HK2 : Hid (ckE (I ++ [x]) = if I.all okT = true then (if 2000 < jz I then 3 else 0) else 80) := by
    show _ = _
    rw [HK.out, if_pos]
    unfold Lex.endT
    rw [decide_eq_true he1, decide_eq_true he2]; rfl
   have H1 : Hid (∀ (j : Nat) (h : j < I.length) (w' : World), Calls Tryz.prog 38 #[.string I[j].t] w' fun e w2 => e = .returned (.bool (nameB I[j].t)) /\ w2 = w') := fun j h w' => refName_any _ w' (HZ.out j h)
   have H2 : Hid (∀ (j : Nat) (h : j < I.length) (w' : World), Calls Tryz.prog 139 #[.string I[j].t] w' fun e w2 => e = .returned (.bool (numB I[j].t)) /\ w2 = w') := fun j h w' => lRefNumber_any _ w' (HZ.out j h)
   have H3 : Hid (∀ (j : Nat) (h : j < I.length) (w' : World), Calls Tryz.prog 140 #[.string I[j].t] w' fun e w2 => e = .returned (.bool (sigB I[j].t)) /\ w2 = w') := fun j h w' => refSign_any _ w'
   clear HK he1 he2
   generalize ckE (I ++ [x]) = CK at *
   go_enter Tryz.func141, Tryz.ntmps141
   go_wp2
   go_loopw [4] (fun i' wr => ∃ i : Nat, i <= I.length /\ i' = .int .i64 (i : Int) /\ Gr w wr /\ ∀ j (hj : j < I.length), j < i -> okT I[j] = true) (fun i' _ => I.length - (intOf i').toNat)
   case atStart => exact ⟨0, by omega, rfl, Gr.refl _, fun j _ h => absurd h (by omega)⟩
   case round =>
    obtain ⟨i, hi, rfl, hg, ha⟩ := hrel
    have HA : Hid (∀ j (hj : j < I.length), j < i -> okT I[j] = true) := ha
    have HG : Hid (Gr w wr) := hg
    clear ha hg
    by_cases hlt : i < I.length
    ·obtain ⟨c0, c1, _⟩ := HT.out i hlt
     replace c0 := HG.out.keep c0
     replace c1 := HG.out.keep c1
     have hbw : b < wr.heap.size := Nat.lt_of_lt_of_le hb HG.out.size
     have HB : Hid (okT I[i] = false -> CK = 80) := fun h => by rw [HK2.out, Lex.all_nidx I okT i hlt h]; rfl
     have HY : Hid (okT I[i] = true -> ∀ j (hj : j < I.length), j < i + 1 -> okT I[j] = true) := fun h j hj hji => if e : j = i then by subst e; exact h else HA.out j hj (by omega)
     have HO : Hid (okT I[i] = if I[i].k = 1 then nameB I[i].t else if I[i].k = 2 then numB I[i].t else if I[i].k = 3 then sigB I[i].t else false) := rfl
     have H1i : Hid (∀ (w' : World), Calls Tryz.prog 38 #[.string I[i].t] w' fun e w2 => e = .returned (.bool (nameB I[i].t)) /\ w2 = w') := H1.out i hlt
     have H2i : Hid (∀ (w' : World), Calls Tryz.prog 139 #[.string I[i].t] w' fun e w2 => e = .returned (.bool (numB I[i].t)) /\ w2 = w') := H2.out i hlt
     have H3i : Hid (∀ (w' : World), Calls Tryz.prog 140 #[.string I[i].t] w' fun e w2 => e = .returned (.bool (sigB I[i].t)) /\ w2 = w') := H3.out i hlt
     clear hb0 hb2 e1 k0 k1 H1 H2 H3
     generalize I[i].k = kk at *
     generalize I[i].t = tt at *
     by_cases h1 : kk = 1
     ·subst h1
      cases hbv : nameB tt with
      | true =>
       have hv : okT I[i] = true := by rw [HO.out]; simp [hbv]
       have HV : Hid (okT I[i] = true) := hv
       clear hv
       clear HO
       go_wp2
       go_quiet (fail)
       go_wp2_with fail
       refine (H1i.out _).mono ?_
       rintro e w1 ⟨rfl, hw1⟩; obtain rfl := hw1.symm
       rw [hbv]
       go_wp2
       go_roundw
       case rel => exact ⟨i + 1, by omega, by go_num, HG.out.trans ((Gr.refl _).drewN _), HY.out HV.out⟩
       case measure => simp [intOf]; omega
      | false =>
       have hv : okT I[i] = false := by rw [HO.out]; simp [hbv]
       have HV : Hid (okT I[i] = false) := hv
       clear hv
       clear HO
       go_wp2
       go_quiet (fail)
       go_wp2_with fail
       refine (H1i.out _).mono ?_
       rintro e w1 ⟨rfl, hw1⟩; obtain rfl := hw1.symm
       rw [hbv]
       go_wp2
       go_ret
       exact ⟨by rw [HB.out HV.out]; rfl, HG.out.trans ((Gr.refl _).drewN _)⟩
     have e1 : (kk == 1) = false := by simpa using h1
     by_cases h2 : kk = 2
     ·subst h2
      cases hbv : numB tt with
      | true =>
       have hv : okT I[i] = true := by rw [HO.out]; simp [hbv]
       have HV : Hid (okT I[i] = true) := hv
       clear hv
       clear HO
       go_wp2
       go_quiet (fail)
       go_wp2_with fail
       refine (H2i.out _).mono ?_
       rintro e w1 ⟨rfl, hw1⟩; obtain rfl := hw1.symm
       rw [hbv]
       go_wp2
       go_roundw
       case rel => exact ⟨i + 1, by omega, by go_num, HG.out.trans ((Gr.refl _).drewN _), HY.out HV.out⟩
       case measure => simp [intOf]; omega
      | false =>
       have hv : okT I[i] = false := by rw [HO.out]; simp [hbv]
       have HV : Hid (okT I[i] = false) := hv
       clear hv
       clear HO
       go_wp2
       go_quiet (fail)
       go_wp2_with fail
       refine (H2i.out _).mono ?_
       rintro e w1 ⟨rfl, hw1⟩; obtain rfl := hw1.symm
       rw [hbv]
       go_wp2
       go_ret
       exact ⟨by rw [HB.out HV.out]; rfl, HG.out.trans ((Gr.refl _).drewN _)⟩
     have e2 : (kk == 2) = false := by simpa using h2
     by_cases h3 : kk = 3
     ·subst h3
      cases hbv : sigB tt with
      | true =>
       have hv : okT I[i] = true := by rw [HO.out]; simp [hbv]
       have HV : Hid (okT I[i] = true) := hv
       clear hv
       clear HO
       go_wp2
       go_quiet (fail)
       go_wp2_with fail
       refine (H3i.out _).mono ?_
       rintro e w1 ⟨rfl, hw1⟩; obtain rfl := hw1.symm
       rw [hbv]
       go_wp2
       go_roundw
       case rel => exact ⟨i + 1, by omega, by go_num, HG.out.trans ((Gr.refl _).drewN _), HY.out HV.out⟩
       case measure => simp [intOf]; omega
      | false =>
       have hv : okT I[i] = false := by rw [HO.out]; simp [hbv]
       have HV : Hid (okT I[i] = false) := hv
       clear hv
       clear HO
       go_wp2
       go_quiet (fail)
       go_wp2_with fail
       refine (H3i.out _).mono ?_
       rintro e w1 ⟨rfl, hw1⟩; obtain rfl := hw1.symm
       rw [hbv]
       go_wp2
       go_ret
       exact ⟨by rw [HB.out HV.out]; rfl, HG.out.trans ((Gr.refl _).drewN _)⟩
     have e3 : (kk == 3) = false := by simpa using h3
     have HV : Hid (okT I[i] = false) := by show _ = _; rw [HO.out, if_neg h1, if_neg h2, if_neg h3]
     clear h1 h2 h3
     clear HO
     go_wp2
     go_quiet (fail)
     go_wp2
     go_ret
     exact ⟨by rw [HB.out HV.out]; rfl, HG.out.trans ((Gr.refl _).drewN _)⟩
    ·obtain rfl : i = I.length := by omega
     have hall : I.all okT = true := Lex.all_idx I okT (fun j hj => HA.out j hj hj)
     have HE : Hid (CK = if 2000 < jz I then 3 else 0) := by
      show _ = _
      rw [HK2.out, if_pos hall]
     have HS : Hid (∀ j (h : j < I.length), I[j].t.size <= 16) := fun j h => (Lex.may_size (List.all_eq_true.1 hall _ (List.getElem_mem h))).2
     have HJ : Hid (∀ j (h : j < I.length), jz (I.take (j + 1)) = jz (I.take j) + (if j = 0 then 0 else 1) + I[j].t.size) := fun j h => Lex.jz_take I j h
     have HL : Hid (∀ j, jz (I.take j) <= jz I) := Lex.jz_le I
     have HF : Hid (jz (I.take I.length) = jz I) := by show _ = _; rw [List.take_length]
     have hj0 : jz (I.take 0) = 0 := by simp [Lex.jz, Lex.szs]
     clear hall HA HK2 hb0 hb2 e1 k0 k1 H1 H2 H3
     obtain ⟨wz, hwz⟩ : ∃ x, x = wr := ⟨_, rfl⟩
     subst hwz
     go_wp2
     go_loop [9, 10] (fun z' i' => ∃ i : Nat, i <= I.length /\ i' = .int .i64 (i : Int) /\ z' = .int .i64 ((jz (I.take i) : Nat) : Int) /\ jz (I.take i) <= 2017) (fun _ i' => I.length - (intOf i').toNat)
     case atStart => exact ⟨0, by omega, rfl, by rw [hj0]; rfl, by omega⟩
     case round =>
      obtain ⟨i, hi, rfl, rfl, h17⟩ := hrel
      by_cases hsm : jz (I.take i) <= 2000
      ·by_cases hlt : i < I.length
       ·obtain ⟨c0, c1, _⟩ := HT.out i hlt
        replace c1 := HG.out.keep c1
        have hbw : b < wz.heap.size := Nat.lt_of_lt_of_le hb HG.out.size
        have h16 := HS.out i hlt
        have hjt := HJ.out i hlt
        have hsmi : ((jz (I.take i) : Nat) : Int) <= 2000 := by omega
        clear c0
        by_cases hi0 : i = 0
        ·subst hi0
         rw [if_pos rfl] at hjt
         rw [Nat.zero_mul, Nat.add_zero] at c1
         have HJT : Hid (jz (I.take (0 + 1)) = jz (I.take 0) + 0 + I[0].t.size) := hjt
         clear hjt
         go_wp2
         go_round
         case rel => exact ⟨0 + 1, by omega, by go_num, by first | (rw [HJT.out]; congr 1; done) | (rw [HJT.out]; congr 1; omega), by rw [HJT.out]; omega⟩
         case measure => simp [intOf]; omega
        ·rw [if_neg hi0] at hjt
         have hgt : (0 : Int) < (i : Int) := by omega
         have HJT : Hid (jz (I.take (i + 1)) = jz (I.take i) + 1 + I[i].t.size) := hjt
         have hw2 : wrap64 (((jz (I.take i) : Nat) : Int) + 1) = ((jz (I.take i) : Nat) : Int) + 1 := by unfold wrap64; omega
         clear hjt
         go_wp2
         go_round
         case rel => exact ⟨i + 1, by omega, by go_num, by first | (rw [HJT.out]; congr 1; done) | (rw [HJT.out]; congr 1; omega), by rw [HJT.out]; omega⟩
         case measure => simp [intOf]; omega
       ·obtain rfl : i = I.length := by omega
        rw [HF.out] at *
        have hbi : ¬ (2000 : Int) < ((jz I : Nat) : Int) := by omega
        rw [if_neg (by omega)] at HE
        go_wp2
        go_ret
        exact ⟨by rw [HE.out]; rfl, HG.out⟩
      ·have hbg : 2000 < jz I := by have := HL.out i; omega
       rw [if_pos hbg] at HE
       have hbi : (2000 : Int) < ((jz (I.take i) : Nat) : Int) := by omega
       have hbj : ¬ ((jz (I.take i) : Nat) : Int) <= 2000 := by omega
       clear hsm hbg
       generalize jz (I.take i) = zz at *
       by_cases hlt : i < I.length
       ·go_wp2
        go_ret
        exact ⟨by rw [HE.out]; rfl, HG.out⟩
       ·obtain rfl : i = I.length := by omega
        go_wp2
        go_ret
        exact ⟨by rw [HE.out]; rfl, HG.out⟩
  ·have HE : Hid (ckE (I ++ [x]) = 80) := by
    show _ = _
    rw [HK.out, if_neg]
    unfold Lex.endT
    rw [decide_eq_false he2]; simp
   rw [decide_eq_false he2, show (!false) = true from rfl] at hb0
   have hb2 : (x.t.toList == []) = false := by simpa using hb0
   clear HK he2
   generalize ckE (I ++ [x]) = CK at *
   go_enter Tryz.func141, Tryz.ntmps141
   go_wp2
   go_ret
   exact ⟨by rw [HE.out]; rfl, Gr.refl _⟩
 ·have HE : Hid (ckE (I ++ [x]) = 80) := by
   show _ = _
   rw [HK.out, if_neg]
   unfold Lex.endT
   rw [decide_eq_false he1]; simp
  have e1 : (x.k != 0) = true := by simpa using he1
  clear HK
  generalize ckE (I ++ [x]) = CK at *
  go_enter Tryz.func141, Tryz.ntmps141
  go_wp2
  go_ret
  exact ⟨by rw [HE.out]; rfl, Gr.refl _⟩

end Go.Proofs.YthaadiclopoamaaGreatDoor
