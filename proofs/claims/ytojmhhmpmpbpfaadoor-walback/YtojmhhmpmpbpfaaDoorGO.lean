/- Parts of these proofs, laid together. -/
import Derived.Test.YtojmhhmpmpbpfaaDoorGN
import Derived.Test.YtojmhhmpmpbpfaaDoorGB
import Derived.Deep.CutBlock
import Derived.Test.YtojmhhmpmpbpfaaDoorGM
import Derived.Lib.AppendZeros
import Derived.Laws.AppendOwnNone
import Derived.Test.YtojmhhmpmpbpfaaDoorGF
import Derived.Test.YtojmhhmpmpbpfaaDoorGA
namespace Go.Proofs.YtojmhhmpmpbpfaaDoor
open Go.RowKit Go.Maps
open Dk (Fl Fo St Ok Up zf emp used cutF fallA kf)
variable {X : Nat → Prop} {w w' : World} {r : Nat} {fa : Option Addr} {fc : Nat} {ka : Option Addr} {kc : Nat} {s : St}

theorem fall_take (K : Nat → Int) (L : List Fl) (k : Nat) (h : k < L.length) : fallA K 0 (L.take (k + 1)) = fallA K 0 (L.take k) ++ Dk.one (K k) L[k] := by
  rw [List.take_succ_eq_append_getElem h, Dk.fall_snoc, List.length_take, Nat.min_eq_left (by omega), Nat.zero_add]
theorem kf_in {l : List Int} {k : Nat} (h : k < l.length) : kf l k = l[k] := by
  unfold kf
  rw [List.getD_eq_getElem?_getD, List.getElem?_eq_getElem h]
  rfl
theorem kf_out {l : List Int} {k : Nat} (h : ¬ k < l.length) : kf l k = 0 := by
  unfold kf
  rw [List.getD_eq_getElem?_getD, List.getElem?_eq_none (by omega)]
  rfl
theorem RAt.fallen (h : RAt X w r fa fc ka kc s) (g : Gr w w') {l : List Int} {fa' : Option Addr} {fc' : Nat} (hl : RowAt flf w' fa' (fallA (kf l) 0 s.L)) (hb : ∀ p, fa' = some p → w.heap.size ≤ p.block) (h0 : (fallA (kf l) 0 s.L).length ≤ fc') (h1 : fc' ≤ 9223372036854775807) :
    Rf X (((w'.setCell ⟨r, 4, none⟩ (.slice fa' (fallA (kf l) 0 s.L).length fc')).setCell ⟨r, 1, none⟩ (.bool true)).setCell ⟨r, 2, none⟩ (.int .i64 0)) r (Dk.fall s l) ∧ Tr w (((w'.setCell ⟨r, 4, none⟩ (.slice fa' (fallA (kf l) 0 s.L).length fc')).setCell ⟨r, 1, none⟩ (.bool true)).setCell ⟨r, 2, none⟩ (.int .i64 0)) r := by
  have hk := h.ok.fall l
  have h2 := (h.gr g).setFiles (L := fallA (kf l) 0 s.L) hl (fun p e => ⟨by have := hb p e; have := h.lt; omega, fun hx => by have := hb p e; have := h.xl _ hx; omega⟩) h0 h1 ⟨hk.up, hk.fo, hk.len, hk.fits, hk.r1, h.ok.l0, h.ok.l1⟩
  have h3 := (h2.setGone true).setLeft 0 hk
  exact ⟨⟨_, _, _, _, h3⟩, ((Tr.gr g).trans (Tr.set _ _ _ _)).trans ((Tr.set _ _ _ _).trans (Tr.set _ _ _ _))⟩
end Go.Proofs.YtojmhhmpmpbpfaaDoor
namespace Go.Proofs.YtojmhhmpmpbpfaaDoor
open Go.RowKit Go.Maps
open Dk (Fl Fo St Ok Up zf emp used cutF fallA kf)
variable {X : Nat → Prop} {w w' : World} {r : Nat} {fa : Option Addr} {fc : Nat} {ka : Option Addr} {kc : Nat} {s : St}

theorem cnt_yes (h : lasB s = true) : Dk.cntE s = 150 ∧ Dk.cntS s = Dk.fall (lasS s) s.keep := by
  simp only [lasB, Bool.and_eq_true, Bool.not_eq_true', decide_eq_false_iff_not, decide_eq_true_eq] at h
  obtain ⟨h1, h2⟩ := h
  unfold Dk.cntE Dk.cntS lasS
  rw [if_neg h1, if_neg h1, if_neg h1, if_neg (by omega), if_neg (by omega)]
  exact ⟨rfl, rfl⟩
theorem cnt_no (hk : Ok s) (h : lasB s = false) : Dk.cntE s = 0 ∧ Dk.cntS s = lasS s := by
  have hl := hk.l0
  unfold Dk.cntE Dk.cntS lasS
  by_cases h1 : s.left = 0
  · rw [if_pos h1, if_pos h1, if_pos h1]
    exact ⟨rfl, rfl⟩
  · have h2 : ¬ s.left - 1 = 0 := fun h2 => by simp [lasB, h1, h2] at h
    rw [if_neg h1, if_neg h1, if_neg h1, if_pos (by omega), if_pos (by omega)]
    exact ⟨rfl, rfl⟩
theorem fl_new1 (w : World) (o : Obj) (f : Fl) : ∀ j u, ([f].flatMap flf)[j]? = some u → ((w.alloc o).alloc (.cells #[.int .i64 f.n, .string f.d, .int .i64 f.y] 68)).cell? ((⟨w.heap.size + 1, 0, none⟩ : Addr).add j) = some u := by
  have h := fl_new (w.alloc o) f
  have hs : (w.alloc o).heap.size = w.heap.size + 1 := by simp
  rwa [hs] at h
theorem fl_snoc1 (R : List Fl) (f : Fl) : (R ++ [f]).flatMap flf = R.flatMap flf ++ flf f := by simp
theorem nil_app (d : ByteArray) : (⟨#[]⟩ : ByteArray) ++ d = d := ByteArray.empty_append
/- the file is there -/
def repF (n : Int) (x f : Fl) : Fl := if f.n = n then x else f
theorem rep_ins {L : List Fl} (hu : Up L) {x : Fl} (hh : Dk.has L x.n = true) : L.map (repF x.n x) = Dk.ins x L := by
  obtain ⟨g1, g2⟩ := Dk.get_mem hh
  obtain ⟨A, B, e⟩ := List.append_of_mem g1
  generalize Dk.get L x.n = g at *
  subst e
  rw [Dk.ins_mid hu g2.symm, List.map_append, List.map_cons]
  obtain ⟨h1, h2, h3⟩ := List.pairwise_append.1 hu
  obtain ⟨h4, h5⟩ := List.pairwise_cons.1 h2
  have ea : A.map (repF x.n x) = A := by
    conv => rhs; rw [← List.map_id A]
    refine List.map_congr_left fun y hy => ?_
    have := h3 y hy g (by simp)
    unfold repF
    rw [if_neg (by omega)]
    rfl
  have eb : B.map (repF x.n x) = B := by
    conv => rhs; rw [← List.map_id B]
    refine List.map_congr_left fun y hy => ?_
    have := h4 y hy
    unfold repF
    rw [if_neg (by omega)]
    rfl
  rw [ea, eb]
  unfold repF
  rw [if_pos g2]
/- it is not -/
def dnB (n : Int) (A : List Fl) : Bool := A.any (fun f => decide (n < f.n))
def outN (x : Fl) (A : List Fl) : List Fl := if dnB x.n A then Dk.ins x A else A
theorem ins_snoc {x f : Fl} {A : List Fl} (h : dnB x.n A = true) : Dk.ins x (A ++ [f]) = Dk.ins x A ++ [f] := by
  induction A with
  | nil => cases h
  | cons g t ih =>
    rw [List.cons_append, Dk.ins, Dk.ins]
    split
    · rfl
    · split
      · rfl
      · rename_i c1 c2
        have : dnB x.n t = true := by
          simp only [dnB, List.any_cons, Bool.or_eq_true, decide_eq_true_eq] at h
          rcases h with h | h
          · omega
          · exact h
        rw [ih this]
        rfl
theorem dn_snoc (n : Int) (A : List Fl) (f : Fl) : dnB n (A ++ [f]) = (dnB n A || decide (n < f.n)) := by simp [dnB]
theorem dn_all {n : Int} {A : List Fl} (h : dnB n A = false) (hh : ∀ f ∈ A, f.n ≠ n) : ∀ f ∈ A, f.n < n := by
  intro f hf
  have h1 := List.any_eq_false.1 h f hf
  have := hh f hf
  simp at h1
  omega
theorem outN_done {x f : Fl} {A : List Fl} (h : dnB x.n A = true) : outN x (A ++ [f]) = outN x A ++ [f] := by
  unfold outN
  rw [dn_snoc, h]
  exact ins_snoc h
theorem outN_now {x f : Fl} {A : List Fl} (h : dnB x.n A = false) (hh : ∀ g ∈ A, g.n ≠ x.n) (hf : x.n < f.n) : outN x (A ++ [f]) = outN x A ++ [x] ++ [f] := by
  unfold outN
  rw [dn_snoc, h, decide_eq_true hf]
  show Dk.ins x (A ++ [f]) = A ++ [x] ++ [f]
  rw [Dk.ins_end (dn_all h hh) (by simpa using hf), List.append_assoc]
  rfl
theorem outN_not {x f : Fl} {A : List Fl} (h : dnB x.n A = false) (hf : ¬ x.n < f.n) : outN x (A ++ [f]) = outN x A ++ [f] := by
  unfold outN
  rw [dn_snoc, h, decide_eq_false hf]
  rfl
theorem outN_end {x : Fl} {A : List Fl} (h : dnB x.n A = false) (hh : ∀ g ∈ A, g.n ≠ x.n) : outN x A ++ [x] = Dk.ins x A := by
  unfold outN
  rw [h]
  have := Dk.ins_end (B := []) (dn_all h hh) (by simp)
  rw [List.append_nil] at this
  rw [this]
  rfl
theorem outN_full {x : Fl} {A : List Fl} (h : dnB x.n A = true) : outN x A = Dk.ins x A := by unfold outN; rw [h]; rfl
theorem outN_len (x : Fl) (A : List Fl) : (outN x A).length ≤ A.length + 1 := by
  unfold outN
  split
  · have : ∀ B : List Fl, (Dk.ins x B).length ≤ B.length + 1 := by
      intro B
      induction B with
      | nil => simp [Dk.ins]
      | cons g t ih =>
        unfold Dk.ins
        split
        · simp
        · split
          · simp
          · simp; omega
    exact this A
  · omega
end Go.Proofs.YtojmhhmpmpbpfaaDoor
namespace Go.Proofs.YtojmhhmpmpbpfaaDoor
open Go.RowKit Go.Maps
open Dk (Fl Fo St Ok Up zf emp used cutF fallA kf)
variable {X : Nat → Prop} {w w' : World} {r : Nat} {fa : Option Addr} {fc : Nat} {ka : Option Addr} {kc : Nat} {s : St}

theorem flat_take {α : Type} {f : α → List Value} {c : Nat} (hc : ∀ x, (f x).length = c) (L : List α) (i : Nat) (hi : i ≤ L.length) : (L.take i).flatMap f = (L.flatMap f).take (i * c) := by
  have h := congrArg (List.flatMap f) (List.take_append_drop i L)
  rw [List.flatMap_append] at h
  rw [← h, List.take_left' (by rw [flat_len hc, List.length_take, Nat.min_eq_left hi])]
theorem flat_drop {α : Type} {f : α → List Value} {c : Nat} (hc : ∀ x, (f x).length = c) (L : List α) (i : Nat) (hi : i ≤ L.length) : (L.drop i).flatMap f = (L.flatMap f).drop (i * c) := by
  have h := congrArg (List.flatMap f) (List.take_append_drop i L)
  rw [List.flatMap_append] at h
  rw [← h, List.drop_left' (by rw [flat_len hc, List.length_take, Nat.min_eq_left hi])]
theorem row_take {α : Type} {f : α → List Value} {c : Nat} (hc : ∀ x, (f x).length = c) {w : World} {ad : Option Addr} {L : List α} (h : RowAt f w ad L) (p : Nat) (hp : p ≤ L.length) : RowAt f w ad (L.take p) := by
  intro j u hu
  rw [flat_take hc L p hp, List.getElem?_take] at hu
  split at hu
  · exact h j u hu
  · cases hu
theorem row_drop {α : Type} {f : α → List Value} {c : Nat} (hc : ∀ x, (f x).length = c) {w : World} {a : Addr} {L : List α} (h : RowAt f w (some a) L) (p : Nat) (hp : p ≤ L.length) : RowAt f w (some (a.add (p * c))) (L.drop p) := by
  intro j u hu
  rw [flat_drop hc L p hp, List.getElem?_drop] at hu
  obtain ⟨b, off, e, hb, h1⟩ := h _ u hu
  cases e
  exact ⟨b, off + p * c, by rw [Addr.add_lit], hb, by rw [Nat.add_assoc]; exact h1⟩
theorem wpList_append_row {P : Program} {w : World} {ops : Array Oper} {rest : List Oper} {o : Oper} {a : Act} {Q : Exit → Act → World → Prop} (hgd : o.guard = none) (s x : Operand) (t : TypeId)
    (ho : o.op = .call { callee := .builtin .append, args := #[s, x], argTypes := #[t, t] })
    (base : Nat) (e : TypeId) (i : TypeInfo) (z : Value) (size bytes : Nat) (ht : P.underlying t = some (.slice e)) (hi : P.info? e = some i) (hz : i.zero = some z)
    (hsize : i.size = size) (hby : i.bytes = bytes) (hzs : z.cells.size = size) (hsz : 0 < size)
    (v : Value) (n : Nat) (xs : List Value) (hs : a.eval s = v) (hown : w.ownsRow base e size v n xs)
    {α : Type} {f : α → List Value} (hf : ∀ x, (f x).length = size) (L : List α) (ad : Option Addr) (c : Nat) (hx : a.eval x = .slice ad L.length c) (hc : ad = none → c = 0) (row : RowAt f w ad L) (h1 : ∀ u ∈ L.flatMap f, u.oneCell' = true)
    (h63 : n + L.length ≤ maxLen) (hbytes : (n + L.length) * bytes ≤ 140737488355328) (hbase : base ≤ w.heap.size)
    (h : ∀ v' w', w'.ownsRow base e size v' (n + L.length) (xs ++ L.flatMap f) → w.grownBy w' v.ownBlock → (v'.ownBlock = v.ownBlock ∨ v'.ownBlock = some w.heap.size) → wpList P ops Q rest (a.put o.dst v') w') :
    wpList P ops Q (o :: rest) a w := by
  cases ad with
  | none =>
    have hL := RowAt.none hf hsz row
    subst hL
    obtain rfl := hc rfl
    exact wpList_append_own_none hgd s x t ho base e i size ht hi v n xs hs hown hx (h v w (by simpa using hown) ⟨rfl, rfl, rfl, Nat.le_refl _, fun _ _ _ => rfl⟩ (Or.inl rfl))
  | some ad =>
    exact wpList_append_own_at w hgd s x t ho base e i z size bytes ht hi hz hsize hby hzs hsz v n xs hs hown ad L.length c (L.flatMap f) hx (flat_len hf L) row.news h1 h63 hbytes hbase (fun v' w' q1 q2 _ q4 => h v' w' q1 q2 q4)
def highAd (ad : Option Addr) (cap c : Nat) : Option Addr := if cap = c then ad else ad.map (·.add (c * 3))
theorem slice_low (ad : Option Addr) (n cap c : Nat) (hc : c ≤ n) (hn : n ≤ cap) (W : World) :
    (Instr.sliceAt 46 (.slice ad n cap) none (some (.int .i64 c)) none).run Tryd.prog W = .ok (.slice ad c cap) W := by
  have h1 : (c : Int) ≤ cap := by omega
  go_simp
theorem slice_high (ad : Option Addr) (n cap c : Nat) (hc : c ≤ n) (W : World) :
    (Instr.sliceAt 46 (.slice ad n cap) (some (.int .i64 c)) none none).run Tryd.prog W = .ok (.slice (highAd ad cap c) (n - c) (cap - c)) W := by
  have h1 : (c : Int) ≤ n := by omega
  go_simp
  unfold highAd
  rfl
theorem row_high {w : World} {ad : Option Addr} {l : List Fl} (h : RowAt flf w ad l) (cap c : Nat) (hl : l.length ≤ cap) : RowAt flf w (highAd ad cap c) (l.drop c) := by
  by_cases hc : c < l.length
  · obtain ⟨b, off, rfl, _⟩ := fl_at h 0 (by omega)
    unfold highAd
    rw [if_neg (by omega), Option.map_some]
    exact row_drop flf_len h c (by omega)
  · rw [List.drop_eq_nil_of_le (by omega)]; exact RowAt.nil
theorem own_lit0 (w : World) (base : Nat) (t : TypeId) (g : Nat) (hg : g = w.heap.size) (hb : base ≤ w.heap.size) : (w.alloc (.cells #[] t)).ownsRow base t 3 (.slice (some ⟨g, 0, none⟩) 0 0) 0 [] := by
  subst hg; exact World.ownsRow_lit w #[] 0 hb (by unfold maxLen; omega) rfl
theorem highAd_some {ad : Option Addr} {cap c : Nat} (h : ad ≠ none) : highAd ad cap c ≠ none := by
  unfold highAd
  split
  · exact h
  · cases ad with
    | none => exact absurd rfl h
    | some a => simp
/- what is left behind a step -/
theorem put_at {L : List Fl} (hu : Up L) {n : Int} (hh : Dk.has L n = true) {k : Int} (hf : Fo (Dk.get L n)) (h0 : 0 ≤ k) (h1 : k ≤ (Dk.get L n).d.size) :
    Dk.put (Dk.fst (Dk.get L n) k) L = L.take (ix L n) ++ (if k = 0 then [] else [Dk.fst (Dk.get L n) k]) ++ L.drop (ix L n + 1) := by
  obtain ⟨hl, e1, e2⟩ := ix_at hh
  have e : L.take (ix L n) ++ Dk.get L n :: L.drop (ix L n + 1) = L := by rw [← e1, ← List.drop_eq_getElem_cons hl, List.take_append_drop]
  generalize L.take (ix L n) = A at *
  generalize L.drop (ix L n + 1) = B at *
  have hem := (Dk.fst_emp hf h0 h1).1
  generalize Dk.get L n = g at *
  clear e1 e2 hl hh
  subst e
  unfold Dk.put
  rw [hem]
  by_cases c : k = 0
  · rw [if_pos (decide_eq_true c), if_pos c, Dk.del_mid hu (show (Dk.fst g k).n = g.n from rfl), List.append_nil]
  · rw [if_neg (by simpa using c), if_neg c, Dk.ins_mid hu (show (Dk.fst g k).n = g.n from rfl), List.append_assoc]
    rfl
theorem BoxAt.keepB {w w' : World} {g : Nat} {a b c : Value} (h : BoxAt w g a b c) (e : w'.heap[g]? = w.heap[g]?) (hs : w.heap.size ≤ w'.heap.size) : BoxAt w' g a b c :=
  ⟨(World.cell?_of_block (a := ⟨g, 0, none⟩) e).trans h.c0, (World.cell?_of_block (a := ⟨g, 1, none⟩) e).trans h.c1, (World.cell?_of_block (a := ⟨g, 2, none⟩) e).trans h.c2, (World.frozen?_of_block (a := ⟨g, 0, none⟩) e).trans h.f0, (World.frozen?_of_block (a := ⟨g, 1, none⟩) e).trans h.f1, (World.frozen?_of_block (a := ⟨g, 2, none⟩) e).trans h.f2, Nat.lt_of_lt_of_le h.lt hs⟩
end Go.Proofs.YtojmhhmpmpbpfaaDoor
namespace Go.Proofs.YtojmhhmpmpbpfaaDoor
open Go.RowKit
open Dk (Fl zf)


/- numbers that a call owns -/
theorem own_nums {base : Nat} {v : Value} {l : List Int} {w : World} (h : w.ownsRow base 3 1 v l.length (intV l)) : ∃ ad cap, v = .slice ad l.length cap ∧ (∀ p, ad = some p → base ≤ p.block) ∧ IntsAt w ad l := by
  have hcell := fun g (hg : v.ownBlock = some g) => h.cells hg
  have hlt := h.lt
  obtain ⟨_, ⟨rfl, h0⟩ | ⟨g, cap, cur, rfl, hx⟩⟩ := h
  · have : l = [] := List.length_eq_zero_iff.1 h0
    subst this
    exact ⟨none, 0, rfl, by simp, fun j hj => absurd hj (by simp)⟩
  · refine ⟨some ⟨g, 0, none⟩, cap, rfl, fun p hp => (by cases hp; exact (hlt g rfl).1), ?_⟩
    intro j hj
    refine ⟨g, 0, rfl, (hlt g rfl).2, ?_⟩
    have := hcell g rfl j (.int .i64 l[j]) (by simp [intV, hj])
    rw [Addr.add_lit] at this
    simpa using this
theorem infoN : (Tryd.prog.info? 3).map (fun i => (i.zero, i.size, i.bytes)) = some (some (.int .i64 0), 1, 8) := by kernel_rfl
theorem own_one (w : World) (base : Nat) (x : Value) (t : TypeId) (g : Nat) (hg : g = w.heap.size) (hb : base ≤ w.heap.size) : (w.alloc (.cells #[x] t)).ownsRow base t 1 (.slice (some ⟨g, 0, none⟩) 1 1) 1 [x] := by
  subst hg; exact World.ownsRow_lit w #[x] 1 hb (by unfold maxLen; omega) rfl

/- files as they come in: few, and not too long -/
structure FsAt (w : World) (ad : Option Addr) (cap : Nat) (L : List Fl) : Prop where
  row : RowAt flf w ad L
  len : L.length ≤ 3000
  cap : L.length ≤ cap
  rng : ∀ f ∈ L, -9223372036854775808 ≤ f.n ∧ f.n ≤ 9223372036854775807 ∧ f.d.size ≤ 300000
theorem FsAt.gr {w w' : World} {ad : Option Addr} {cap : Nat} {L : List Fl} (h : FsAt w ad cap L) (g : Gr w w') : FsAt w' ad cap L := ⟨h.row.gr g, h.len, h.cap, h.rng⟩

/- a struct of four cells in memory that may be written -/
structure Bx4 (w : World) (g : Nat) (a b c d : Value) : Prop where
  c0 : w.cell? ⟨g, 0, none⟩ = some a
  c1 : w.cell? ⟨g, 1, none⟩ = some b
  c2 : w.cell? ⟨g, 2, none⟩ = some c
  c3 : w.cell? ⟨g, 3, none⟩ = some d
  f0 : w.frozen? ⟨g, 0, none⟩ = false
  f1 : w.frozen? ⟨g, 1, none⟩ = false
  f2 : w.frozen? ⟨g, 2, none⟩ = false
  f3 : w.frozen? ⟨g, 3, none⟩ = false
  lt : g < w.heap.size
theorem Bx4.gr {w w' : World} {g : Nat} {a b c d : Value} (h : Bx4 w g a b c d) (k : Gr w w') : Bx4 w' g a b c d :=
  ⟨k.keep h.c0, k.keep h.c1, k.keep h.c2, k.keep h.c3, k.keepF h.lt h.f0, k.keepF h.lt h.f1, k.keepF h.lt h.f2, k.keepF h.lt h.f3, Nat.lt_of_lt_of_le h.lt k.size⟩
theorem Bx4.new (w : World) (a b c d : Value) (t : TypeId) (g : Nat) (hg : g = w.heap.size) : Bx4 (w.alloc (.cells #[a, b, c, d] t)) g a b c d := by
  subst hg
  exact ⟨by simp, by simp, by simp, by simp, by simp [go_sem], by simp [go_sem], by simp [go_sem], by simp [go_sem], by simp⟩
theorem Bx4.fill {w : World} {g : Nat} {a b c d : Value} (h : Bx4 w g a b c d) (x y z u : Value) :
    Bx4 ((((w.setCell ⟨g, 0, none⟩ x).setCell ⟨g, 1, none⟩ y).setCell ⟨g, 2, none⟩ z).setCell ⟨g, 3, none⟩ u) g x y z u := by
  obtain ⟨h0, h1, h2, h3, f0, f1, f2, f3, hl⟩ := h
  exact ⟨by simp [go_sem, *], by simp [go_sem, *], by simp [go_sem, *], by simp [go_sem, *], by simp [go_sem, *], by simp [go_sem, *], by simp [go_sem, *], by simp [go_sem, *], by simpa using hl⟩
theorem Bx4.s0 {w : World} {g : Nat} {a b c d : Value} (h : Bx4 w g a b c d) (x : Value) : Bx4 (w.setCell ⟨g, 0, none⟩ x) g x b c d := by
  obtain ⟨h0, h1, h2, h3, f0, f1, f2, f3, hl⟩ := h
  exact ⟨by simp [go_sem, *], by simp [go_sem, *], by simp [go_sem, *], by simp [go_sem, *], by simp [go_sem, *], by simp [go_sem, *], by simp [go_sem, *], by simp [go_sem, *], by simpa using hl⟩
theorem Bx4.s1 {w : World} {g : Nat} {a b c d : Value} (h : Bx4 w g a b c d) (x : Value) : Bx4 (w.setCell ⟨g, 1, none⟩ x) g a x c d := by
  obtain ⟨h0, h1, h2, h3, f0, f1, f2, f3, hl⟩ := h
  exact ⟨by simp [go_sem, *], by simp [go_sem, *], by simp [go_sem, *], by simp [go_sem, *], by simp [go_sem, *], by simp [go_sem, *], by simp [go_sem, *], by simp [go_sem, *], by simpa using hl⟩
theorem Bx4.s2 {w : World} {g : Nat} {a b c d : Value} (h : Bx4 w g a b c d) (x : Value) : Bx4 (w.setCell ⟨g, 2, none⟩ x) g a b x d := by
  obtain ⟨h0, h1, h2, h3, f0, f1, f2, f3, hl⟩ := h
  exact ⟨by simp [go_sem, *], by simp [go_sem, *], by simp [go_sem, *], by simp [go_sem, *], by simp [go_sem, *], by simp [go_sem, *], by simp [go_sem, *], by simp [go_sem, *], by simpa using hl⟩
theorem Bx4.s3 {w : World} {g : Nat} {a b c d : Value} (h : Bx4 w g a b c d) (x : Value) : Bx4 (w.setCell ⟨g, 3, none⟩ x) g a b c x := by
  obtain ⟨h0, h1, h2, h3, f0, f1, f2, f3, hl⟩ := h
  exact ⟨by simp [go_sem, *], by simp [go_sem, *], by simp [go_sem, *], by simp [go_sem, *], by simp [go_sem, *], by simp [go_sem, *], by simp [go_sem, *], by simp [go_sem, *], by simpa using hl⟩
theorem Bx4.far {w : World} {g : Nat} {a b c d : Value} (h : Bx4 w g a b c d) (p : Addr) (u : Value) (hp : p.block ≠ g) : Bx4 (w.setCell p u) g a b c d := by
  obtain ⟨h0, h1, h2, h3, f0, f1, f2, f3, hl⟩ := h
  refine ⟨?_, ?_, ?_, ?_, ?_, ?_, ?_, ?_, by simpa using hl⟩
  · rw [World.cell?_setCell_far _ _ _ _ (by simpa using hp)]; exact h0
  · rw [World.cell?_setCell_far _ _ _ _ (by simpa using hp)]; exact h1
  · rw [World.cell?_setCell_far _ _ _ _ (by simpa using hp)]; exact h2
  · rw [World.cell?_setCell_far _ _ _ _ (by simpa using hp)]; exact h3
  · rw [World.frozen?_setCell]; exact f0
  · rw [World.frozen?_setCell]; exact f1
  · rw [World.frozen?_setCell]; exact f2
  · rw [World.frozen?_setCell]; exact f3
theorem Bx4.grown {w w' : World} {g : Nat} {a b c d : Value} (h : Bx4 w g a b c d) {r : Option Nat} (k : w.grownBy w' r) (hne : some g ≠ r) : Bx4 w' g a b c d := by
  have e := k.block g h.lt hne
  have hc : ∀ o, w'.cell? ⟨g, o, none⟩ = w.cell? ⟨g, o, none⟩ := fun o => World.cell?_of_block (w := w) e
  have hf : ∀ o, w'.frozen? ⟨g, o, none⟩ = w.frozen? ⟨g, o, none⟩ := fun o => World.frozen?_of_block (w := w) e
  exact ⟨(hc _).trans h.c0, (hc _).trans h.c1, (hc _).trans h.c2, (hc _).trans h.c3, (hf _).trans h.f0, (hf _).trans h.f1, (hf _).trans h.f2, (hf _).trans h.f3, Nat.lt_of_lt_of_le h.lt k.size⟩

theorem strs_keep {w w' : World} {ad : Option Addr} {l : List ByteArray} (h : StrsAt w ad l) (hs : w.heap.size ≤ w'.heap.size) (hk : ∀ p s, w.cell? p = some (.string s) → w'.cell? p = some (.string s)) : StrsAt w' ad l := by
  intro j hj
  obtain ⟨b, off, e, hb, hc⟩ := h j hj
  exact ⟨b, off, e, Nat.lt_of_lt_of_le hb hs, hk _ _ hc⟩
/- no string is turned where no string stood -/
theorem str_set {w : World} {p : Addr} {v u : Value} (h : w.cell? p = some v) (hv : ∀ s, v ≠ .string s) (q : Addr) (s : ByteArray) (hq : w.cell? q = some (.string s)) : (w.setCell p u).cell? q = some (.string s) := by
  by_cases e : q = p
  · subst e
    rw [h] at hq
    cases hq
    exact absurd rfl (hv s)
  · rw [World.cell?_setCell_other _ _ _ _ (fun h => e h.symm)]
    exact hq
theorem strs_set {w : World} {ad : Option Addr} {l : List ByteArray} (h : StrsAt w ad l) {p : Addr} {v : Value} (u : Value) (hp : w.cell? p = some v) (hv : ∀ s, v ≠ .string s) : StrsAt (w.setCell p u) ad l :=
  strs_keep h (by simp [World.setCell]) (fun q s hq => str_set hp hv q s hq)
theorem ints_far {w : World} {ad : Option Addr} {l : List Int} (h : IntsAt w ad l) (p : Addr) (v : Value) (hp : ∀ a, ad = some a → p.block ≠ a.block) : IntsAt (w.setCell p v) ad l := by
  intro j hj
  obtain ⟨b, off, e, hb, hc⟩ := h j hj
  exact ⟨b, off, e, by simpa using hb, by rw [World.cell?_setCell_far _ _ _ _ (by simpa using hp _ e)]; exact hc⟩
/- what was found is laid into a struct -/
theorem fill_all {w : World} {g : Nat} {a b : Int} {c0 d0 : Option Addr} {c1 c2 d1 d2 : Nat} (h : Bx4 w g (.int .i64 a) (.int .i64 b) (.slice c0 c1 c2) (.slice d0 d1 d2)) {ab ad : Option Addr} {B : List ByteArray} {D : List Int} (hb : StrsAt w ab B) (hd : IntsAt w ad D) (hf : ∀ p, ad = some p → g ≠ p.block) (x y : Int) (z0 : Option Addr) (z1 z2 : Nat) (u : Value) :
    StrsAt ((((w.setCell ⟨g, 0, none⟩ (.int .i64 x)).setCell ⟨g, 1, none⟩ (.int .i64 y)).setCell ⟨g, 2, none⟩ (.slice z0 z1 z2)).setCell ⟨g, 3, none⟩ u) ab B ∧
    IntsAt ((((w.setCell ⟨g, 0, none⟩ (.int .i64 x)).setCell ⟨g, 1, none⟩ (.int .i64 y)).setCell ⟨g, 2, none⟩ (.slice z0 z1 z2)).setCell ⟨g, 3, none⟩ u) ad D := by
  have h1 := h.s0 (.int .i64 x)
  have h2 := h1.s1 (.int .i64 y)
  have h3 := h2.s2 (.slice z0 z1 z2)
  refine ⟨strs_set (strs_set (strs_set (strs_set hb _ h.c0 (by simp)) _ h1.c1 (by simp)) _ h2.c2 (by simp)) _ h3.c3 (by simp), ?_⟩
  exact ints_far (ints_far (ints_far (ints_far hd _ _ hf) _ _ hf) _ _ hf) _ _ hf
theorem gr_fill {w W : World} {g : Nat} (h : Gr w W) (hg : w.heap.size ≤ g) (x y z u : Value) : Gr w ((((W.setCell ⟨g, 0, none⟩ x).setCell ⟨g, 1, none⟩ y).setCell ⟨g, 2, none⟩ z).setCell ⟨g, 3, none⟩ u) :=
  (((h.set _ hg x).set _ hg y).set _ hg z).set _ hg u
/- what is found, as an answer -/
structure LkI (x : Sg.An) (w w' : World) (ab : Option Addr) (cb : Nat) (ad : Option Addr) (cd : Nat) : Prop where
  bo : StrsAt w' ab (x.bodies.map mkT)
  dr : IntsAt w' ad x.drop
  gr : Gr w w'
  fb : ∀ p, ab = some p → w.heap.size ≤ p.block
  fd : ∀ p, ad = some p → w.heap.size ≤ p.block
def LkR (x : Sg.An) (w : World) (e : Ending) (w' : World) : Prop :=
  ∃ ab cb ad cd, e = .returned (.tuple #[.agg #[.int .i64 x.num, .int .i64 (x.good : Int), .slice ab x.bodies.length cb, .slice ad x.drop.length cd], .int .i64 x.err]) ∧ LkI x w w' ab cb ad cd
end Go.Proofs.YtojmhhmpmpbpfaaDoor
