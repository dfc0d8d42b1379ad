/- An array of twelve rows of four numbers: in memory, and held against another. -/
import Derived.Test.YtiakajheoajepaaLedA
import Derived.Deep.MidRow
namespace Go.Proofs.Ytiakajheoajepaa
open Go.RowKit

theorem run_forIn_all {P : Program} {w : World} (r : Nat → Bool) (f : Nat → Sem Bool) : ∀ (l : List Nat), (∀ i ∈ l, (f i).run P w = .ok (r i) w) →
    ((forIn l ((none, ()) : Option Bool × Unit) (fun i _ => do let b ← f i; if (!b) = true then pure (ForInStep.done (some false, ())) else pure (ForInStep.yield (none, ()))) : Sem (Option Bool × Unit)).run P w) = .ok (if l.all r = true then (none, ()) else (some false, ())) w
  | [], _ => by simp
  | i :: l, h => by
    rw [List.forIn_cons]
    simp only [Sem.run_bind, h i (by simp), Result.andThen_ok]
    cases hr : r i with
    | false => simp [hr]
    | true =>
      have := run_forIn_all r f l (fun j hj => h j (by simp [hj]))
      simp only [Bool.not_true, Bool.false_eq_true, if_false, Sem.run_pure, Result.andThen_ok, this, List.all_cons, hr, Bool.true_and]
theorem run_equalIn_arr {P : Program} {w : World} (d : Nat) (t e : TypeId) (len n : Nat) (xs ys : Array Value) (ht : P.underlying t = some (.array len e)) (hn : (sizeOf e).run P w = .ok n w) (r : Nat → Bool)
    (h : ∀ i, i < len → ((do let a ← part e xs (i * n); let b ← part e ys (i * n); Op.equalIn d e a b) : Sem Bool).run P w = .ok (r i) w) :
    (Op.equalIn (d + 1) t (.agg xs) (.agg ys)).run P w = .ok ((List.range len).all r) w := by
  simp only [Op.equalIn, Sem.run_bind, run_underlying ht, Result.andThen_ok, hn]
  rw [Std.Legacy.Range.forIn_eq_forIn_range']
  have hl : List.range' 0 len = List.range len := List.range_eq_range'.symm
  have := run_forIn_all (P := P) (w := w) r (fun i => do let a ← part e xs (i * n); let b ← part e ys (i * n); Op.equalIn d e a b) (List.range len) (fun i hi => h i (List.mem_range.1 hi))
  simp only [bind_assoc] at this
  simp only [Std.Legacy.Range.size, Nat.sub_zero, Nat.add_sub_cancel, Nat.div_one, hl, this, Result.andThen_ok]
  cases (List.range len).all r <;> simp

/- an array of forty-eight numbers -/
def arrL (f : Nat → Int) : List Value := (List.range 48).map fun j => .int .i64 (f j)
theorem arrL_len (f : Nat → Int) : (arrL f).length = 48 := by simp [arrL]
theorem arrL_get (f : Nat → Int) (j : Nat) (h : j < 48) : (arrL f)[j]? = some (.int .i64 (f j)) := by
  simp [arrL, h]
theorem arrL_one (f : Nat → Int) : ∀ v ∈ arrL f, v.oneCell' = true := by
  intro v hv
  simp only [arrL, List.mem_map] at hv
  obtain ⟨j, _, rfl⟩ := hv
  rfl
theorem arr_size : (Try.prog.info? 82).map (·.size) = some 48 := by kernel_rfl
theorem ext4 (f : Nat → Int) (i : Nat) (hi : i < 12) : (arrL f).toArray.extract (i * 4) (i * 4 + 4) = #[.int .i64 (f (i * 4)), .int .i64 (f (i * 4 + 1)), .int .i64 (f (i * 4 + 2)), .int .i64 (f (i * 4 + 3))] := by
  apply Array.ext_getElem?
  intro j
  rw [Array.getElem?_extract]
  have hs : (arrL f).toArray.size = 48 := by simp [arrL]
  by_cases hj : j < 4
  · rw [if_pos (by rw [hs]; omega), List.getElem?_toArray, arrL_get f (i * 4 + j) (by omega)]
    match j, hj with
    | 0, _ => rfl
    | 1, _ => rfl
    | 2, _ => rfl
    | 3, _ => rfl
  · rw [if_neg (by rw [hs]; omega)]
    simp
    omega
theorem pen_eq (w : World) (d : Nat) (a b c e a' b' c' e' : Int) : (Op.equalIn (d + 1 + 1) 81 (.agg #[.int .i64 a, .int .i64 b, .int .i64 c, .int .i64 e]) (.agg #[.int .i64 a', .int .i64 b', .int .i64 c', .int .i64 e'])).run Try.prog w = .ok ((a == a') && ((b == b') && ((c == c') && ((e == e') && true)))) w := by
  have := run_equalIn_arr (P := Try.prog) (w := w) (d + 1) 81 2 4 1 #[.int .i64 a, .int .i64 b, .int .i64 c, .int .i64 e] #[.int .i64 a', .int .i64 b', .int .i64 c', .int .i64 e'] (by kernel_rfl) (by kernel_rfl)
    (fun i => match i with | 0 => a == a' | 1 => b == b' | 2 => c == c' | _ => e == e') (by
      intro i hi
      have hp : ∀ (xs : Array Value) (o : Nat) (v : Value), xs[o]? = some v → (part 2 xs o).run Try.prog w = .ok v w := by
        intro xs o v h
        have ha : (isAgg 2).run Try.prog w = .ok false w := by kernel_rfl
        simp [part, Sem.run_bind, ha, h]
      simp only [Sem.run_bind]
      match i, hi with
      | 0, _ => rw [hp _ _ (.int .i64 a) rfl]; simp only [Result.andThen_ok]; rw [hp _ _ (.int .i64 a') rfl]; simp only [Result.andThen_ok]; exact run_equalIn_int w d 2 .i64 .i64 a a' Try.underlying2
      | 1, _ => rw [hp _ _ (.int .i64 b) rfl]; simp only [Result.andThen_ok]; rw [hp _ _ (.int .i64 b') rfl]; simp only [Result.andThen_ok]; exact run_equalIn_int w d 2 .i64 .i64 b b' Try.underlying2
      | 2, _ => rw [hp _ _ (.int .i64 c) rfl]; simp only [Result.andThen_ok]; rw [hp _ _ (.int .i64 c') rfl]; simp only [Result.andThen_ok]; exact run_equalIn_int w d 2 .i64 .i64 c c' Try.underlying2
      | 3, _ => rw [hp _ _ (.int .i64 e) rfl]; simp only [Result.andThen_ok]; rw [hp _ _ (.int .i64 e') rfl]; simp only [Result.andThen_ok]; exact run_equalIn_int w d 2 .i64 .i64 e e' Try.underlying2)
  rw [this]
  rfl
def same4 (f g : Nat → Int) (i : Nat) : Bool := (f (i * 4) == g (i * 4)) && ((f (i * 4 + 1) == g (i * 4 + 1)) && ((f (i * 4 + 2) == g (i * 4 + 2)) && ((f (i * 4 + 3) == g (i * 4 + 3)) && true)))
theorem arr_eqIn (w : World) (d : Nat) (f g : Nat → Int) : (Op.equalIn (d + 1 + 1 + 1) 82 (.agg (arrL f).toArray) (.agg (arrL g).toArray)).run Try.prog w = .ok ((List.range 12).all (same4 f g)) w := by
  refine run_equalIn_arr (P := Try.prog) (w := w) (d + 1 + 1) 82 81 12 4 _ _ (by kernel_rfl) (by kernel_rfl) (same4 f g) ?_
  intro i hi
  have hp : ∀ (xs : Array Value) (o : Nat), (part 81 xs o).run Try.prog w = .ok (.agg (xs.extract o (o + 4))) w := by
    intro xs o
    have ha : (isAgg 81).run Try.prog w = .ok true w := by kernel_rfl
    simp [part, Sem.run_bind, ha]
  simp only [Sem.run_bind, hp, Result.andThen_ok, ext4 _ i hi]
  exact pen_eq w d _ _ _ _ _ _ _ _
theorem arr_neq (w : World) (f g : Nat → Int) : (binOp .neq 82 (.agg (arrL f).toArray) (.agg (arrL g).toArray)).run Try.prog w = .ok (.bool (!(List.range 12).all (same4 f g))) w := by
  rw [run_neq_struct, arr_eqIn w 9997 f g]; rfl
theorem same_all (f g : Nat → Int) : (List.range 12).all (same4 f g) = true ↔ ∀ i, i < 12 → f (i * 4) = g (i * 4) ∧ f (i * 4 + 1) = g (i * 4 + 1) ∧ f (i * 4 + 2) = g (i * 4 + 2) ∧ f (i * 4 + 3) = g (i * 4 + 3) := by
  rw [List.all_eq_true]
  constructor
  · intro h i hi
    have := h i (List.mem_range.2 hi)
    simp only [same4, Bool.and_eq_true, beq_iff_eq] at this
    exact ⟨this.1, this.2.1, this.2.2.1, this.2.2.2.1⟩
  · intro h i hi
    obtain ⟨h1, h2, h3, h4⟩ := h i (List.mem_range.1 hi)
    simp only [same4, Bool.and_eq_true, beq_iff_eq]
    exact ⟨h1, h2, h3, h4, trivial⟩

/- forty-eight numbers in memory that may be written -/
structure ArrAt (w : World) (g : Nat) (f : Nat → Int) : Prop where
  c : ∀ j, j < 48 → w.cell? ⟨g, j, none⟩ = some (.int .i64 (f j))
  fz : ∀ j, j < 48 → w.frozen? ⟨g, j, none⟩ = false
  lt : g < w.heap.size
theorem ArrAt.gr {w w' : World} {g : Nat} {f : Nat → Int} (h : ArrAt w g f) (k : Gr w w') : ArrAt w' g f := ⟨fun j hj => k.keep (h.c j hj), fun j hj => k.keepF h.lt (h.fz j hj), Nat.lt_of_lt_of_le h.lt k.size⟩
def upd (f : Nat → Int) (i : Nat) (v : Int) : Nat → Int := fun j => if j = i then v else f j
theorem ArrAt.set {w : World} {g : Nat} {f : Nat → Int} (h : ArrAt w g f) (i : Nat) (hi : i < 48) (v : Int) : ArrAt (w.setCell ⟨g, i, none⟩ (.int .i64 v)) g (upd f i v) := by
  refine ⟨fun j hj => ?_, fun j hj => by rw [World.frozen?_setCell]; exact h.fz j hj, by simpa using h.lt⟩
  by_cases e : j = i
  · subst e
    rw [World.cell?_setCell_same _ _ _ (h.c j hj)]
    unfold upd; rw [if_pos rfl]
  · rw [World.cell?_setCell_other _ _ _ _ (fun h => e (by cases h; rfl))]
    unfold upd; rw [if_neg e]; exact h.c j hj
theorem ArrAt.far {w : World} {g : Nat} {f : Nat → Int} (h : ArrAt w g f) (p : Addr) (v : Value) (hp : p.block ≠ g) : ArrAt (w.setCell p v) g f :=
  ⟨fun j hj => by rw [World.cell?_setCell_far _ _ _ _ (by simpa using hp)]; exact h.c j hj, fun j hj => by rw [World.frozen?_setCell]; exact h.fz j hj, by simpa using h.lt⟩
theorem ArrAt.range {w : World} {g : Nat} {f : Nat → Int} (h : ArrAt w g f) : w.rangeAt g 0 (arrL f) := by
  intro j v hv
  have hj : j < 48 := by
    have := (List.getElem?_eq_some_iff.1 hv).1
    rw [arrL_len] at this; exact this
  rw [arrL_get f j hj] at hv
  cases hv
  rw [Nat.zero_add]; exact h.c j hj
theorem ArrAt.there {w : World} {g : Nat} {f : Nat → Int} (h : ArrAt w g f) : w.there g 0 48 := by
  intro j hj
  rw [Nat.zero_add]
  exact ⟨by rw [h.c j hj]; rfl, h.fz j hj⟩
theorem ArrAt.congr {w : World} {g : Nat} {f f' : Nat → Int} (h : ArrAt w g f) (e : ∀ j, j < 48 → f j = f' j) : ArrAt w g f' := ⟨fun j hj => by rw [← e j hj]; exact h.c j hj, h.fz, h.lt⟩
theorem ArrAt.new (w : World) (cs : Array Value) (t : TypeId) (f : Nat → Int) (g : Nat) (hg : g = w.heap.size) (hcs : cs = (arrL f).toArray) : ArrAt (w.alloc (.cells cs t)) g f := by
  subst hg hcs
  refine ⟨fun j hj => ?_, fun j hj => by simp [go_sem], by simp⟩
  rw [World.cell?_alloc_at (w := w) _ _ w.heap.size j rfl, List.getElem?_toArray, arrL_get f j hj]
theorem Gr.setCells {a b : World} (h : Gr a b) (g : Nat) (hg : a.heap.size ≤ g) : ∀ (vs : List Value) (o : Nat), Gr a (b.setCells g o vs)
  | [], _ => h
  | v :: vs, o => by
    rw [World.setCells]
    exact Gr.setCells (h.set ⟨g, o, none⟩ hg v) g hg vs (o + 1)
theorem ArrAt.stored {w : World} {g : Nat} {f : Nat → Int} (h : ArrAt w g f) (f' : Nat → Int) : (w.setCells g 0 (arrL f')).rangeAt g 0 (arrL f') := World.rangeAt_setCells_same w g 0 (arrL f') (by rw [arrL_len]; exact h.there)
theorem results_arr {fn : Func} {p : Tmp} (h : fn.results = #[.cell p 82]) (tmps : Array Value) (w : World) (g : Nat) (f : Nat → Int) (hp : tmps.getD p undef = .pointer (some ⟨g, 0, none⟩)) (hr : w.rangeAt g 0 (arrL f)) :
    (results fn tmps).run Try.prog w = .ok (.agg (arrL f).toArray) w := by
  have hp' : tmps[p]?.getD undef = .pointer (some ⟨g, 0, none⟩) := by simpa using hp
  have hl := run_loadVar_mid (P := Try.prog) w g 0 82 (arrL f) _ hr Try.underlying82 rfl (by rw [arrL_len]; exact arr_size)
  simp [results, h, hp', asAddr, hl]
theorem arrL_congr {f g : Nat → Int} (h : ∀ j, j < 48 → f j = g j) : arrL f = arrL g := by
  unfold arrL
  apply List.map_congr_left
  intro j hj
  rw [h j (List.mem_range.1 hj)]
end Go.Proofs.Ytiakajheoajepaa
