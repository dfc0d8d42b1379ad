
/- Rows of timers: cut, appended; two wheels side by side. -/
import Derived.Test.YtmgiiofjlgchfaaDoorWhX
import Derived.Lib.AppendZeros
import Derived.Laws.AppendOwnNone
namespace Go.Proofs.YtmgiiofjlgchfaaDoor
open Go.RowKit Go.Maps Go.Sort
open Wh (Tm Sl ks hasK atK del ins put dig whl Inv tlt Up trn upto past)

theorem flat_take {α : Type} {f : α → List Value} {c : Nat} (hc : ∀ x, (f x).length = c) (L : List α) (i : Nat) (hi : i ≤ L.length) : (L.take i).flatMap f = (L.flatMap f).take (i * c) := by
  have h := congrArg (List.flatMap f) (List.take_append_drop i L)
  rw [List.flatMap_append] at h
  rw [← h, List.take_left' (by rw [flat_len hc, List.length_take, Nat.min_eq_left hi])]
theorem flat_drop {α : Type} {f : α → List Value} {c : Nat} (hc : ∀ x, (f x).length = c) (L : List α) (i : Nat) (hi : i ≤ L.length) : (L.drop i).flatMap f = (L.flatMap f).drop (i * c) := by
  have h := congrArg (List.flatMap f) (List.take_append_drop i L)
  rw [List.flatMap_append] at h
  rw [← h, List.drop_left' (by rw [flat_len hc, List.length_take, Nat.min_eq_left hi])]
theorem step_append_row {P : Program} {w : World} {ops : Array Oper} {o : Oper} {a : Act} {K : Act → World → Prop} {Q : Exit → Act → World → Prop} {E : Prop} (hgd : o.guard = none) (s x : Operand) (t : TypeId)
    (ho : o.op = .call { callee := .builtin .append, args := #[s, x], argTypes := #[t, t] })
    (base : Nat) (e : TypeId) (i : TypeInfo) (z : Value) (size bytes : Nat) (ht : P.underlying t = some (.slice e)) (hi : P.info? e = some i) (hz : i.zero = some z)
    (hsize : i.size = size) (hby : i.bytes = bytes) (hzs : z.cells.size = size) (hsz : 0 < size)
    (v : Value) (n : Nat) (xs : List Value) (hs : a.eval s = v) (hown : w.ownsRow base e size v n xs)
    {α : Type} {f : α → List Value} (hf : ∀ x, (f x).length = size) (L : List α) (ad : Option Addr) (c : Nat) (hx : a.eval x = .slice ad L.length c) (hc : ad = none → c = 0) (row : RowAt f w ad L) (h1 : ∀ u ∈ L.flatMap f, u.oneCell' = true)
    (h63 : n + L.length ≤ maxLen) (hbytes : (n + L.length) * bytes ≤ 140737488355328) (hbase : base ≤ w.heap.size)
    (h : ∀ v' w', w'.ownsRow base e size v' (n + L.length) (xs ++ L.flatMap f) → w.grownBy w' v.ownBlock → K (a.put o.dst v') w') :
    if Region.wanted o (yielded ops a.tmps) = true then Oper.wp P o a w K Q else E := by
  have hw : Region.wanted o (yielded ops a.tmps) = true := by simp [Region.wanted, hgd]
  rw [if_pos hw]
  cases ad with
  | none =>
    have hL := RowAt.none hf hsz row
    subst hL
    obtain rfl := hc rfl
    have hrun := run_append_owned_none (P := P) (w := w) base t o.type e i size ht hi v n xs hown
    unfold Oper.wp
    simp only [List.length_nil] at hx
    simp [execOp, ho, resolve, invoke, builtin, hs, hx, hrun, Result.andThen]
    exact h v w (by simpa using hown) ⟨rfl, rfl, rfl, Nat.le_refl _, fun _ _ _ => rfl⟩
  | some ad =>
    obtain ⟨v', w', hr, h2, h3, _⟩ := run_append_own (P := P) w base t o.type e i z size bytes ht hi hz hsize hby hzs hsz v n xs hown ad L.length c (L.flatMap f) (flat_len hf L) row.news h1 h63 hbytes hbase
    unfold Oper.wp execOp
    simp only [ho, resolve, invoke, builtin, Sem.run_bind, Sem.run_pure, Result.andThen_ok, List.map_toArray, List.map_cons, List.map_nil, hs, hx, hr]
    exact h v' w' h2 h3
theorem row_take {α : Type} {f : α → List Value} {c : Nat} (hc : ∀ x, (f x).length = c) {w : World} {ad : Option Addr} {L : List α} (h : RowAt f w ad L) (p : Nat) (hp : p ≤ L.length) : RowAt f w ad (L.take p) := by
  intro j u hu
  rw [flat_take hc L p hp, List.getElem?_take] at hu
  split at hu
  · exact h j u hu
  · cases hu
theorem row_drop {α : Type} {f : α → List Value} {c : Nat} (hc : ∀ x, (f x).length = c) {w : World} {a : Addr} {L : List α} (h : RowAt f w (some a) L) (p : Nat) (hp : p ≤ L.length) : RowAt f w (some (a.add (p * c))) (L.drop p) := by
  intro j u hu
  rw [flat_drop hc L p hp, List.getElem?_drop] at hu
  obtain ⟨b, off, e, hb, h1⟩ := h _ u hu
  cases e
  exact ⟨b, off + p * c, by rw [Addr.add_lit], hb, by rw [Nat.add_assoc]; exact h1⟩
theorem wpList_append_row {P : Program} {w : World} {ops : Array Oper} {rest : List Oper} {o : Oper} {a : Act} {Q : Exit → Act → World → Prop} (hgd : o.guard = none) (s x : Operand) (t : TypeId)
    (ho : o.op = .call { callee := .builtin .append, args := #[s, x], argTypes := #[t, t] })
    (base : Nat) (e : TypeId) (i : TypeInfo) (z : Value) (size bytes : Nat) (ht : P.underlying t = some (.slice e)) (hi : P.info? e = some i) (hz : i.zero = some z)
    (hsize : i.size = size) (hby : i.bytes = bytes) (hzs : z.cells.size = size) (hsz : 0 < size)
    (v : Value) (n : Nat) (xs : List Value) (hs : a.eval s = v) (hown : w.ownsRow base e size v n xs)
    {α : Type} {f : α → List Value} (hf : ∀ x, (f x).length = size) (L : List α) (ad : Option Addr) (c : Nat) (hx : a.eval x = .slice ad L.length c) (hc : ad = none → c = 0) (row : RowAt f w ad L) (h1 : ∀ u ∈ L.flatMap f, u.oneCell' = true)
    (h63 : n + L.length ≤ maxLen) (hbytes : (n + L.length) * bytes ≤ 140737488355328) (hbase : base ≤ w.heap.size)
    (h : ∀ v' w', w'.ownsRow base e size v' (n + L.length) (xs ++ L.flatMap f) → w.grownBy w' v.ownBlock → (v'.ownBlock = v.ownBlock ∨ v'.ownBlock = some w.heap.size) → wpList P ops Q rest (a.put o.dst v') w') :
    wpList P ops Q (o :: rest) a w := by
  cases ad with
  | none =>
    have hL := RowAt.none hf hsz row
    subst hL
    obtain rfl := hc rfl
    exact wpList_append_own_none hgd s x t ho base e i size ht hi v n xs hs hown hx (h v w (by simpa using hown) ⟨rfl, rfl, rfl, Nat.le_refl _, fun _ _ _ => rfl⟩ (Or.inl rfl))
  | some ad =>
    exact wpList_append_own_at w hgd s x t ho base e i z size bytes ht hi hz hsize hby hzs hsz v n xs hs hown ad L.length c (L.flatMap f) hx (flat_len hf L) row.news h1 h63 hbytes hbase (fun v' w' q1 q2 _ q4 => h v' w' q1 q2 q4)
def highAd (ad : Option Addr) (cap c : Nat) : Option Addr := if cap = c then ad else ad.map (·.add (c * 2))
theorem slice_low (ad : Option Addr) (n cap c : Nat) (hc : c ≤ n) (hn : n ≤ cap) (W : World) :
    (Instr.sliceAt 36 (.slice ad n cap) none (some (.int .i64 c)) none).run Tryd.prog W = .ok (.slice ad c cap) W := by
  have h1 : (c : Int) ≤ cap := by omega
  go_simp
theorem slice_high (ad : Option Addr) (n cap c : Nat) (hc : c ≤ n) (W : World) :
    (Instr.sliceAt 36 (.slice ad n cap) (some (.int .i64 c)) none none).run Tryd.prog W = .ok (.slice (highAd ad cap c) (n - c) (cap - c)) W := by
  have h1 : (c : Int) ≤ n := by omega
  go_simp
  unfold highAd
  rfl
theorem row_high {w : World} {ad : Option Addr} {l : List Tm} (h : RowAt tmf w ad l) (cap c : Nat) (hl : l.length ≤ cap) : RowAt tmf w (highAd ad cap c) (l.drop c) := by
  by_cases hc : c < l.length
  · obtain ⟨b, off, rfl, _⟩ := tm_at h 0 (by omega)
    unfold highAd
    rw [if_neg (by omega), Option.map_some]
    exact row_drop tmf_len h c (by omega)
  · rw [List.drop_eq_nil_of_le (by omega)]; exact RowAt.nil
theorem own_lit0 (w : World) (base : Nat) (t : TypeId) (g : Nat) (hg : g = w.heap.size) (hb : base ≤ w.heap.size) : (w.alloc (.cells #[] t)).ownsRow base t 2 (.slice (some ⟨g, 0, none⟩) 0 0) 0 [] := by
  subst hg; exact World.ownsRow_lit w #[] 0 hb (by unfold maxLen; omega) rfl

/- a row of timers beside a wheel -/
abbrev TmR (w : World) (v : Value) (L : List Tm) : Prop := w.ownsRow 0 61 2 v L.length (L.flatMap tmf)
def OffW (b m : Nat) (V : Vl) (v : Value) : Prop := ∀ j, v.ownBlock = some j → ¬ own b m V j
theorem TmR.tn {w w' : World} {b m : Nat} {V V' : Vl} {v : Value} {L : List Tm} (h : TmR w v L) (k : Tn w w' b m V V') (ho : OffW b m V v) : TmR w' v L ∧ OffW b m V' v := by
  refine ⟨row_keep h (fun j hj => k.block j (h.lt j hj).2 (ho j hj)), fun j hj hc => ?_⟩
  rcases k.new j hc with h1 | h1
  · exact ho j hj h1
  · have := (h.lt j hj).2; omega
theorem TmR.gr {w w' : World} {v : Value} {L : List Tm} (h : TmR w v L) (g : Gr w w') : TmR w' v L := row_keep h (fun j hj => g.below.block j (h.lt j hj).2)
/- two wheels side by side -/
structure Two (a w : World) (b m t : Nat) (L : List Tm) (S : Sl) (V : Vl) (b2 m2 t2 : Nat) (L2 : List Tm) (S2 : Sl) (V2 : Vl) : Prop where
  one : Wl a w b m t L S V
  two : Wl a w b2 m2 t2 L2 S2 V2
  dj : ∀ j, own b m V j → ¬ own b2 m2 V2 j
theorem Two.swap {a w : World} {b m t : Nat} {L : List Tm} {S : Sl} {V : Vl} {b2 m2 t2 : Nat} {L2 : List Tm} {S2 : Sl} {V2 : Vl} (h : Two a w b m t L S V b2 m2 t2 L2 S2 V2) : Two a w b2 m2 t2 L2 S2 V2 b m t L S V :=
  ⟨h.two, h.one, fun j h1 h2 => h.dj j h2 h1⟩
theorem Two.grow {a w w' : World} {b m t : Nat} {L : List Tm} {S : Sl} {V : Vl} {b2 m2 t2 : Nat} {L2 : List Tm} {S2 : Sl} {V2 : Vl} (h : Two a w b m t L S V b2 m2 t2 L2 S2 V2) (g : Gr w w') : Two a w' b m t L S V b2 m2 t2 L2 S2 V2 :=
  ⟨h.one.grow g, h.two.grow g, h.dj⟩
theorem Two.tn {a w w' : World} {b m t t' : Nat} {L L' : List Tm} {S S' : Sl} {V V' : Vl} {b2 m2 t2 : Nat} {L2 : List Tm} {S2 : Sl} {V2 : Vl} (h : Two a w b m t L S V b2 m2 t2 L2 S2 V2) (k : Tn w w' b m V V') (hw : WAt w' b m t' L' S' V') (hi : Inv t' L' S') : Two a w' b m t' L' S' V' b2 m2 t2 L2 S2 V2 := by
  have h1 := h.one.tn k hw hi
  refine ⟨h1, ⟨h.two.wa.other k (fun j hj hc => h.dj j hc hj), h.two.iv, h1.gr, h.two.low⟩, fun j hj hc => ?_⟩
  rcases k.new j hj with h2 | h2
  · exact h.dj j h2 hc
  · have := h.two.wa.own_lt hc; omega
theorem Two.sk {a w w' : World} {b m t x : Nat} {L : List Tm} {S S' : Sl} {V V' : Vl} {b2 m2 t2 : Nat} {L2 : List Tm} {S2 : Sl} {V2 : Vl} {v : Value} (h : Two a w b m t L S V b2 m2 t2 L2 S2 V2) (k : SkI w b m L V w' x S' V' v) :
    Two a w' b m x (past L x) S' V' b2 m2 t2 L2 S2 V2 ∧ TmR w' v (upto L x) ∧ OffW b m V' v ∧ OffW b2 m2 V2 v := by
  refine ⟨h.tn k.tn k.wa k.iv, own_low k.tr (Nat.zero_le _), k.off, fun j hj hc => ?_⟩
  have h1 := (k.tr.lt j hj).1
  have := h.two.wa.own_lt hc
  omega
/- of any wheel, by a call on another, a row that is off both -/
theorem TmR.off2 {w w' : World} {b m : Nat} {V V' : Vl} {v : Value} {L : List Tm} (h : TmR w v L) (k : Tn w w' b m V V') (ho : OffW b m V v) {b2 m2 : Nat} {V2 : Vl} (h2 : OffW b2 m2 V2 v) : TmR w' v L ∧ OffW b m V' v ∧ OffW b2 m2 V2 v :=
  ⟨(h.tn k ho).1, (h.tn k ho).2, h2⟩
theorem tm_row {w : World} {v : Value} {L : List Tm} (h : TmR w v L) : ∃ ad c, v = .slice ad L.length c ∧ L.length ≤ c ∧ c ≤ 9223372036854775807 ∧ RowAt tmf w ad L ∧ (ad = none → c = 0) := by
  obtain ⟨ad, c, h1, h2, h3, h4, _, h6⟩ := own_row h
  exact ⟨ad, c, h1, h2, h3, h4, h6⟩
end Go.Proofs.YtmgiiofjlgchfaaDoor
