/- What the proof is made of, part 10. -/
import Derived.Test.YtgidkmipecfjhaaTLLDoes9
namespace Go.Proofs.Ytgidkmipecfjhaa
variable {P : Program} {md : Region.Mode} {ops : Array Oper} {Q : Exit → Act → World → Prop}
def wpAnyL (P : Program) (md : Region.Mode) (ops : Array Oper) (Q : Exit → Act → World → Prop) (s : Nat) (S : World → Prop) : Nat → Array Bool → Act → World → Prop
  | 0, listed, a, w => Region.ready md ops listed = [] ∧ Q .normal a w
  | fuel + 1, listed, a, w =>
    (Region.ready md ops listed = [] → Q .normal a w) ∧
    ∀ i ∈ Region.ready md ops listed, wpOp P ops Q i (fun a' w' => ((listed.setIfInBounds i true).getD s true = false → S w') ∧ wpAnyL P md ops Q s S fuel (listed.setIfInBounds i true) a' w') a w
variable {s : Nat} {S : World → Prop}
theorem wpAny_of_L : ∀ (fuel : Nat) (listed : Array Bool) (a : Act) (w : World), wpAnyL P md ops Q s S fuel listed a w → wpAny P md ops Q fuel listed a w
  | 0, _, _, _, h => h
  | fuel + 1, _, _, _, h => ⟨h.1, fun i hi => wpOp_mono (fun a' w' h' => wpAny_of_L fuel _ a' w' h'.2) (h.2 i hi)⟩
theorem getD_ne {l : Array Bool} {i j : Nat} (h : i ≠ j) : (l.setIfInBounds i true).getD j true = l.getD j true := getD_set_ne true h
theorem wpAnyL_first {i : Nat} {oi os : Oper} {v : Value} (hi : ops[i]? = some oi) (hsel : ∀ (j : Nat) (o : Oper) cs b, ops[j]? = some o → o.op ≠ .select cs b)
    (hQ : ∀ c a w, Q (.panic c) (a.put oi.dst v) w → Q (.panic c) a w) (his : i ≠ s) (hos : ops[s]? = some os) (hdep : ∃ e ∈ os.after, Region.binds md e = true ∧ e.on = i) :
    ∀ (fuel : Nat) (listed : Array Bool) (a : Act) (w : World),
      (∀ j oj, ops[j]? = some oj → j ≠ i → listed.getD j true = false → (∀ e ∈ oj.after, Region.binds md e = true → e.on ≠ i) → oi.apart ops oj = true) →
      i ∈ Region.ready md ops listed → YieldsIf P ops S oi v a → listed.getD s true = false → S w →
      wpAnyL P md ops Q s S fuel (listed.setIfInBounds i true) (a.put oi.dst v) w → wpAnyL P md ops Q s S (fuel + 1) listed a w := by
  intro fuel
  induction fuel with
  | zero =>
    intro listed a w _ hr hy _ hS H
    refine ⟨fun h => (by rw [h] at hr; cases hr), fun j hj => ?_⟩
    by_cases hji : j = i
    · subst hji; exact hy.wpOp hi hS ⟨fun _ => hS, H⟩
    · have := ready_mono hj hji
      rw [H.1] at this
      cases this
  | succ fuel ih =>
    intro listed a w hfree hr hy hls hS H
    refine ⟨fun h => (by rw [h] at hr; cases hr), fun j hj => ?_⟩
    by_cases hji : j = i
    · subst hji; exact hy.wpOp hi hS ⟨fun _ => hS, H⟩
    · have h1 := H.2 j (ready_mono hj hji)
      obtain ⟨hjun, oj, hoj, hall⟩ := mem_ready.1 hj
      have hnot : ∀ e ∈ oj.after, Region.binds md e = true → e.on ≠ i := fun e he hb heq => by
        have h1 := hall e he hb
        have h0 := (mem_ready.1 hr).1
        rw [heq] at h1
        rcases Nat.lt_or_ge i listed.size with h' | h'
        · simp [h'] at h0 h1; rw [h0] at h1; cases h1
        · simp [Array.getElem?_eq_none h'] at h1
      have hjs : j ≠ s := fun e => by
        subst e
        rw [hos] at hoj
        cases hoj
        obtain ⟨e, he, hb, hon⟩ := hdep
        exact hnot e he hb hon
      have h2 := wpOp_putIf hoj (hfree j oj hoj hji hjun hnot) (fun cs b => hsel i oi cs b hi) (fun cs b => hsel j oj cs b hoj) hQ hy h1
      have hfree' : ∀ k ok, ops[k]? = some ok → k ≠ i → (listed.setIfInBounds j true).getD k true = false →
          (∀ e ∈ ok.after, Region.binds md e = true → e.on ≠ i) → oi.apart ops ok = true := fun k ok hk hki hun hno => by
        refine hfree k ok hk hki ?_ hno
        by_cases hjk : j = k
        · subst hjk; exact hjun
        · rw [getD_set_ne true hjk] at hun; exact hun
      have hls' : (listed.setIfInBounds j true).getD s true = false := by rw [getD_ne hjs]; exact hls
      have hls2 : ((listed.setIfInBounds i true).setIfInBounds j true).getD s true = false := by rw [getD_ne hjs, getD_ne his]; exact hls
      refine wpOp_mono (fun a' w' h3 => ⟨fun _ => h3.2.1 hls2, ih (listed.setIfInBounds j true) a' w' hfree' (ready_mono hr (Ne.symm hji)) h3.1 hls' (h3.2.1 hls2) ?_⟩) h2
      rw [Array.setIfInBounds_comm _ _ hji]
      exact h3.2.2
theorem wpAnyL_firstW {i : Nat} {oi : Oper} {v : Value} (hi : ops[i]? = some oi) (hsel : ∀ (j : Nat) (o : Oper) cs b, ops[j]? = some o → o.op ≠ .select cs b)
    (hQ : ∀ c a w, Q (.panic c) (a.put oi.dst v) w → Q (.panic c) a w) (his : i ≠ s) :
    ∀ (fuel : Nat) (listed : Array Bool) (a : Act) (w : World),
      (∀ j oj, ops[j]? = some oj → j ≠ i → listed.getD j true = false → (∀ e ∈ oj.after, Region.binds md e = true → e.on ≠ i) → oi.apart ops oj = true) →
      i ∈ Region.ready md ops listed → YieldsIf P ops (fun _ => True) oi v a → (listed.getD s true = false → S w) →
      wpAnyL P md ops Q s S fuel (listed.setIfInBounds i true) (a.put oi.dst v) w → wpAnyL P md ops Q s S (fuel + 1) listed a w := by
  intro fuel
  induction fuel with
  | zero =>
    intro listed a w _ hr hy hS H
    refine ⟨fun h => (by rw [h] at hr; cases hr), fun j hj => ?_⟩
    by_cases hji : j = i
    · subst hji; exact hy.wpOp hi trivial ⟨fun h => hS (by rw [getD_ne his] at h; exact h), H⟩
    · have := ready_mono hj hji
      rw [H.1] at this
      cases this
  | succ fuel ih =>
    intro listed a w hfree hr hy hS H
    refine ⟨fun h => (by rw [h] at hr; cases hr), fun j hj => ?_⟩
    by_cases hji : j = i
    · subst hji; exact hy.wpOp hi trivial ⟨fun h => hS (by rw [getD_ne his] at h; exact h), H⟩
    · have h1 := H.2 j (ready_mono hj hji)
      obtain ⟨hjun, oj, hoj, hall⟩ := mem_ready.1 hj
      have hnot : ∀ e ∈ oj.after, Region.binds md e = true → e.on ≠ i := fun e he hb heq => by
        have h1 := hall e he hb
        have h0 := (mem_ready.1 hr).1
        rw [heq] at h1
        rcases Nat.lt_or_ge i listed.size with h' | h'
        · simp [h'] at h0 h1; rw [h0] at h1; cases h1
        · simp [Array.getElem?_eq_none h'] at h1
      have h2 := wpOp_putIf hoj (hfree j oj hoj hji hjun hnot) (fun cs b => hsel i oi cs b hi) (fun cs b => hsel j oj cs b hoj) hQ hy h1
      have hfree' : ∀ k ok, ops[k]? = some ok → k ≠ i → (listed.setIfInBounds j true).getD k true = false →
          (∀ e ∈ ok.after, Region.binds md e = true → e.on ≠ i) → oi.apart ops ok = true := fun k ok hk hki hun hno => by
        refine hfree k ok hk hki ?_ hno
        by_cases hjk : j = k
        · subst hjk; exact hjun
        · rw [getD_set_ne true hjk] at hun; exact hun
      have hsame : ((listed.setIfInBounds i true).setIfInBounds j true).getD s true = (listed.setIfInBounds j true).getD s true := by
        rw [Array.setIfInBounds_comm _ _ (Ne.symm hji), getD_ne his]
      refine wpOp_mono (fun a' w' h3 => ⟨fun h => h3.2.1 (by rw [hsame]; exact h), ih (listed.setIfInBounds j true) a' w' hfree' (ready_mono hr (Ne.symm hji)) h3.1 (fun h => h3.2.1 (by rw [hsame]; exact h)) ?_⟩) h2
      rw [Array.setIfInBounds_comm _ _ hji]
      exact h3.2.2
def waits (md : Region.Mode) (ops : Array Oper) (s i : Nat) : Bool := match ops[s]? with | some o => o.after.any fun e => Region.binds md e && e.on == i | none => false
theorem waits_spec {i : Nat} (h : waits md ops s i = true) : ∃ os, ops[s]? = some os ∧ ∃ e ∈ os.after, Region.binds md e = true ∧ e.on = i := by
  unfold waits at h
  cases hs : ops[s]? with
  | none => rw [hs] at h; cases h
  | some o =>
    rw [hs] at h
    obtain ⟨e, he, hb⟩ := Array.any_eq_true'.1 h
    simp only [Bool.and_eq_true, beq_iff_eq] at hb
    exact ⟨o, rfl, e, he, hb.1, hb.2⟩
theorem takeS (i d : Nat) {oi : Oper} {v : Value} {fuel : Nat} {listed : Array Bool} {a : Act} {w : World} (hi : ops[i]? = some oi) (hd : oi.dst = some d) (his : i ≠ s) (hwt : waits md ops s i = true)
    (hs : Region.noSelect ops = true) (hf : Region.free md ops listed i = true) (hr : (Region.ready md ops listed).contains i = true) (hls : listed.getD s true = false)
    (hQ : ∀ c a w, Q (.panic c) (a.put (some d) v) w → Q (.panic c) a w) (hw : Region.wanted oi (yielded ops a.tmps) = true) (hy : ∀ w, S w → (execOp a.eval oi).run P w = .ok (.value v) w) (hS : S w)
    (h : wpAnyL P md ops Q s S fuel (listed.setIfInBounds i true) (a.put (some d) v) w) : wpAnyL P md ops Q s S (fuel + 1) listed a w := by
  rw [← hd] at hQ h
  obtain ⟨os, hos, hdep⟩ := waits_spec hwt
  exact wpAnyL_first hi (Region.noSelect_spec hs) hQ his hos hdep fuel listed a w (Region.free_spec hi hf) (by simpa using hr) (Or.inl ⟨hw, hy⟩) hls hS h
theorem takeW (i d : Nat) {oi : Oper} {v : Value} {fuel : Nat} {listed : Array Bool} {a : Act} {w : World} (hi : ops[i]? = some oi) (hd : oi.dst = some d) (his : i ≠ s)
    (hs : Region.noSelect ops = true) (hf : Region.free md ops listed i = true) (hr : (Region.ready md ops listed).contains i = true)
    (hQ : ∀ c a w, Q (.panic c) (a.put (some d) v) w → Q (.panic c) a w) (hw : Region.wanted oi (yielded ops a.tmps) = true) (hy : ∀ w, (execOp a.eval oi).run P w = .ok (.value v) w) (hS : listed.getD s true = false → S w)
    (h : wpAnyL P md ops Q s S fuel (listed.setIfInBounds i true) (a.put (some d) v) w) : wpAnyL P md ops Q s S (fuel + 1) listed a w := by
  rw [← hd] at hQ h
  exact wpAnyL_firstW hi (Region.noSelect_spec hs) hQ his fuel listed a w (Region.free_spec hi hf) (by simpa using hr) (Or.inl ⟨hw, fun w _ => hy w⟩) hS h
theorem stepL (i : Nat) {o : Oper} {fuel : Nat} {listed : Array Bool} {a : Act} {w : World} (hr : Region.ready md ops listed = [i]) (ho : ops[i]? = some o)
    (h : ∀ K' : Act → World → Prop, Shut (∀ a w, ((listed.setIfInBounds i true).getD s true = false → S w) → wpAnyL P md ops Q s S fuel (listed.setIfInBounds i true) a w → K' a w) → if Region.wanted o (yielded ops a.tmps) = true then Oper.wp P o a w K' Q else K' (a.put o.dst undef) w) :
    wpAnyL P md ops Q s S (fuel + 1) listed a w := by
  refine ⟨fun h0 => (by rw [hr] at h0; cases h0), fun j hj => ?_⟩
  rw [hr] at hj
  obtain rfl : j = i := by simpa using hj
  exact wpOp_step ho (fun K' hK => h K' (fun a w hS hW => hK a w ⟨hS, hW⟩))
theorem stepC (i : Nat) {o : Oper} {fuel : Nat} {listed : Array Bool} {a : Act} {w : World} (hr : Region.ready md ops listed = [i]) (ho : ops[i]? = some o)
    (h : ∀ K' : Act → World → Prop, Shut (∀ a w, S w → (S w → wpAnyL P md ops Q s S fuel (listed.setIfInBounds i true) a w) → K' a w) → if Region.wanted o (yielded ops a.tmps) = true then Oper.wp P o a w K' Q else K' (a.put o.dst undef) w) :
    wpAnyL P md ops Q s S (fuel + 1) listed a w :=
  stepL i hr ho (fun K' hK => h K' (fun a w hS hW => hK.out a w (fun _ => hS) (hW hS)))
theorem listed_done {l : Array Bool} {s : Nat} (h1 : l.getD s true = true) (h : l.getD s true = false) {S : Prop} : S := by rw [h1] at h; cases h
theorem stepS {o : Oper} {fuel : Nat} {listed : Array Bool} {a : Act} {w : World} (hr : Region.ready md ops listed = [s]) (ho : ops[s]? = some o) (hl : (listed.setIfInBounds s true).getD s true = true)
    (h : ∀ K' : Act → World → Prop, Shut (∀ a w, wpAnyL P md ops Q s S fuel (listed.setIfInBounds s true) a w → K' a w) → if Region.wanted o (yielded ops a.tmps) = true then Oper.wp P o a w K' Q else K' (a.put o.dst undef) w) :
    wpAnyL P md ops Q s S (fuel + 1) listed a w :=
  stepL s hr ho (fun K' hK => h K' (fun a w hW => hK.out a w (fun h => listed_done hl h) hW))
theorem doneL {listed : Array Bool} {a : Act} {w : World} (hr : Region.ready md ops listed = []) (h : Q .normal a w) : ∀ fuel, wpAnyL P md ops Q s S fuel listed a w
  | 0 => ⟨hr, h⟩
  | _ + 1 => ⟨fun _ => h, by rw [hr]; simp⟩
theorem beginL (s : Nat) (S : World → Prop) {id : Nat} {a : Act} {w : World} (hm : P.follows .mixedOrders = true) (hS : S w.drew)
    (h : S w.drew → wpAnyL P .any ops Q s S ops.size (Array.replicate ops.size false) a w.drew) : (Code.region id ops true).wp P Q a w :=
  wp_region_any hm (wpAny_of_L (s := s) (S := S) _ _ _ _ (h hS))
end Go.Proofs.Ytgidkmipecfjhaa
namespace Go.Proofs.Ytgidkmipecfjhaa
open Go.RowKit
open Led (Acc Mk)
theorem TwoAt.grown {w w' : World} {g : Nat} {a b : Value} {r : Option Nat} (h : TwoAt w g a b) (k : w.grownBy w' r) (hr : some g ≠ r) : TwoAt w' g a b := by
  have hb := k.block g h.lt hr
  exact ⟨k.cell h.c0 hr, k.cell h.c1 hr, (World.frozen?_of_block hb).trans h.f0, (World.frozen?_of_block hb).trans h.f1, Nat.lt_of_lt_of_le h.lt k.size⟩
def fitsB (n : Int) : Bool := decide (0 ≤ n) && decide (n ≤ 1000000000000000)
def newA (s : ByteArray) (n : Int) : Acc := ⟨s, n, 0, 0, 0, 0, 0⟩
def openE (A : List Acc) (M : List Mk) (s : ByteArray) (n : Int) : Int := if (Led.mayB A M && (Act.nameB s && fitsB n)) = true then (if Led.hasB (Led.nm A) s = true then 71 else if 12 ≤ A.length then 3 else 0) else 2
def openA (A : List Acc) (s : ByteArray) (n : Int) : List Acc := A.take (Led.pos (Led.nm A) s) ++ newA s n :: A.drop (Led.pos (Led.nm A) s)
theorem open_len (A : List Acc) (s : ByteArray) (n : Int) : (openA A s n).length = A.length + 1 := by
  unfold openA
  have := Led.pos_le (Led.nm A) s
  rw [Led.nm_len] at this
  rw [List.length_append, List.length_cons, List.length_take, List.length_drop]; omega
set_option maxHeartbeats 2000000 in
set_option maxRecDepth 100000 in
theorem open_no (A : List Acc) (M : List Mk) (s : ByteArray) (n : Int) (adA : Option Addr) (capA : Nat) (adM : Option Addr) (capM : Nat) (w : World) (h : LedAt w adA adM A M) (hs : s.size ≤ 9223372036854775807) (he : openE A M s n ≠ 0) :
    Calls Try.prog 18 #[.agg #[.slice adA A.length capA, .slice adM M.length capM], .string s, .int .i64 n] w fun e w' => e = .returned (.tuple #[.agg #[.slice none 0 0, .slice none 0 0], .int .i64 (openE A M s n)]) ∧ Gr w w' := by
  have HM : Hid (∀ w', Gr w w' → Calls Try.prog 14 #[.agg #[.slice adA A.length capA, .slice adM M.length capM]] w' fun e w2 => e = .returned (.int .i64 (mayL A M)) ∧ Gr w' w2) := fun w' g => (h.gr g).may capA capM
  have HN : Hid (∀ w', Calls Try.prog 49 #[.string s] w' fun e w2 => e = .returned (.bool (Act.nameB s)) ∧ w2 = w') := fun w' => name_any s w' hs
  have HT : Hid (∀ w', Calls Try.prog 50 #[.int .i64 n] w' fun e w2 => e = .returned (.bool (fitsB n)) ∧ w2 = w') := fun w' => fits_any n w'
  have hmf : ∀ (fn : Fn) (first cap : Array Value) (w : World), (Instr.makeFunc fn first cap).run Try.prog w = .ok (.func fn first cap) w := fun _ _ _ _ => rfl
  cases hm : Led.mayB A M with
  | false =>
    have HE : Hid (openE A M s n = 2) := by show _ = _; unfold openE; rw [hm]; rfl
    rw [mayL_no hm] at HM
    clear h hm he HN HT
    go_enter Try.func18, Try.ntmps18
    go_wp2_with fail
    refine (HM.out _ ((Gr.refl _).alloc.alloc)).mono ?_
    rintro e w1 ⟨rfl, hg1⟩
    have R := (TwoAt.new (w.alloc (.cells #[.slice adA A.length capA, .slice adM M.length capM] 25)) (.slice none 0 0) (.slice none 0 0) 25 (w.heap.size + 1) (by simp)).gr hg1
    have g1 : Gr w w1 := (by repeat (first | exact Gr.refl _ | refine Gr.alloc ?_ | refine Gr.drew ?_ | refine Gr.trans ?_ (by assumption)))
    obtain ⟨r0, r1, f0, f1, rl⟩ := R
    clear hg1
    go_wp2
    exact bodyPost_ret (v := .tuple #[.agg #[.slice none 0 0, .slice none 0 0], .int .i64 2]) (by simp [results, Try.results18, go_sem, *]) rfl ⟨by rw [HE.out], (g1.set _ (by simp) _).set _ (by simp) _⟩
  | true =>
    rw [mayL_yes hm] at HM
    have hM := (Led.may_iff A M).1 hm
    have HF : Hid (∀ w', Gr w w' → Calls Try.prog 30 #[.slice adA A.length capA, .string s] w' fun e w2 => e = .returned (.tuple #[.int .i64 (Led.pos (Led.nm A) s : Nat), .bool (Led.hasB (Led.nm A) s)]) ∧ Gr w' w2) := fun w' g => findA_any A s adA capA w' (h.a.gr g) hM.ua (by have := hM.la; omega)
    cases hn : Act.nameB s with
    | false =>
      have HE : Hid (openE A M s n = 2) := by show _ = _; unfold openE; rw [hm, hn]; rfl
      rw [hn] at HN
      clear h hm he HT hM HF hn
      go_enter Try.func18, Try.ntmps18
      go_wp2_with fail
      refine (HM.out _ ((Gr.refl _).alloc.alloc)).mono ?_
      rintro e w1 ⟨rfl, hg1⟩
      have R := (TwoAt.new (w.alloc (.cells #[.slice adA A.length capA, .slice adM M.length capM] 25)) (.slice none 0 0) (.slice none 0 0) 25 (w.heap.size + 1) (by simp)).gr hg1
      have g1 : Gr w w1 := (by repeat (first | exact Gr.refl _ | refine Gr.alloc ?_ | refine Gr.drew ?_ | refine Gr.trans ?_ (by assumption)))
      obtain ⟨r0, r1, f0, f1, rl⟩ := R
      clear hg1
      go_wp2_with fail
      refine (HN.out _).mono ?_
      rintro e w2 ⟨rfl, hw2⟩; obtain rfl := hw2.symm
      go_wp2
      exact bodyPost_ret (v := .tuple #[.agg #[.slice none 0 0, .slice none 0 0], .int .i64 2]) (by simp [results, Try.results18, go_sem, *]) rfl ⟨by rw [HE.out], (g1.set _ (by simp) _).set _ (by simp) _⟩
    | true =>
      rw [hn] at HN
      cases hf : fitsB n with
      | false =>
        have HE : Hid (openE A M s n = 2) := by show _ = _; unfold openE; rw [hm, hn, hf]; rfl
        rw [hf] at HT
        clear h hm he hM HF hn hf
        go_enter Try.func18, Try.ntmps18
        go_wp2_with fail
        refine (HM.out _ ((Gr.refl _).alloc.alloc)).mono ?_
        rintro e w1 ⟨rfl, hg1⟩
        have R := (TwoAt.new (w.alloc (.cells #[.slice adA A.length capA, .slice adM M.length capM] 25)) (.slice none 0 0) (.slice none 0 0) 25 (w.heap.size + 1) (by simp)).gr hg1
        have g1 : Gr w w1 := (by repeat (first | exact Gr.refl _ | refine Gr.alloc ?_ | refine Gr.drew ?_ | refine Gr.trans ?_ (by assumption)))
        obtain ⟨r0, r1, f0, f1, rl⟩ := R
        clear hg1
        go_wp2_with fail
        refine (HN.out _).mono ?_
        rintro e w2 ⟨rfl, hw2⟩; obtain rfl := hw2.symm
        go_wp2_with fail
        refine (HT.out _).mono ?_
        rintro e w2 ⟨rfl, hw2⟩; obtain rfl := hw2.symm
        go_wp2
        exact bodyPost_ret (v := .tuple #[.agg #[.slice none 0 0, .slice none 0 0], .int .i64 2]) (by simp [results, Try.results18, go_sem, *]) rfl ⟨by rw [HE.out], (g1.set _ (by simp) _).set _ (by simp) _⟩
      | true =>
        rw [hf] at HT
        have hE0 : openE A M s n = if Led.hasB (Led.nm A) s = true then 71 else if 12 ≤ A.length then 3 else 0 := by unfold openE; rw [hm, hn, hf]; rfl
        have HB : Hid (∀ w1, Gr ((w.alloc (.cells #[.slice adA A.length capA, .slice adM M.length capM] 25)).alloc (.cells #[.slice none 0 0, .slice none 0 0] 25)) w1 → TwoAt w1 w.heap.size (.slice adA A.length capA) (.slice adM M.length capM) ∧ TwoAt w1 (w.heap.size + 1) (.slice none 0 0) (.slice none 0 0) ∧ Gr w w1) := by
          intro w1 g
          exact ⟨((TwoAt.new w _ _ _ _ rfl).gr (Gr.refl _).alloc).gr g, (TwoAt.new _ _ _ _ (w.heap.size + 1) (by simp)).gr g, (Gr.refl w).alloc.alloc.trans g⟩
        cases hh : Led.hasB (Led.nm A) s with
        | true =>
          rw [hh] at HF
          have HE : Hid (openE A M s n = 71) := by show _ = _; rw [hE0, hh]; rfl
          clear h hm he hM hn hf hh hE0
          generalize Led.pos (Led.nm A) s = p at *
          go_enter Try.func18, Try.ntmps18
          go_wp2_with fail
          refine (HM.out _ ((Gr.refl _).alloc.alloc)).mono ?_
          rintro e w1 ⟨rfl, hg1⟩
          obtain ⟨B, R, g1⟩ := HB.out w1 hg1
          obtain ⟨b0, b1, _, _, bl⟩ := B
          have HR : Hid (TwoAt w1 (w.heap.size + 1) (.slice none 0 0) (.slice none 0 0)) := R
          clear hg1 R
          go_wp2_with fail
          refine (HN.out _).mono ?_
          rintro e w2 ⟨rfl, hw2⟩; obtain rfl := hw2.symm
          go_wp2_with fail
          refine (HT.out _).mono ?_
          rintro e w2 ⟨rfl, hw2⟩; obtain rfl := hw2.symm
          go_wp2_with fail
          refine (HF.out _ g1).mono ?_
          rintro e w3 ⟨rfl, hg3⟩
          obtain ⟨r0, r1, f0, f1, rl⟩ := HR.out.gr hg3
          have g3 : Gr w w3 := g1.trans hg3
          clear hg3 b0 b1 bl g1
          go_wp2
          exact bodyPost_ret (v := .tuple #[.agg #[.slice none 0 0, .slice none 0 0], .int .i64 71]) (by simp [results, Try.results18, go_sem, *]) rfl ⟨by rw [HE.out], (g3.set _ (by simp) _).set _ (by simp) _⟩
        | false =>
          rw [hh] at HF
          have hl : 12 ≤ A.length := by
            by_cases hl : 12 ≤ A.length
            · exact hl
            · exact absurd (by rw [hE0, hh, if_neg hl]; rfl) he
          have hli : (12 : Int) ≤ (A.length : Int) := by omega
          have HE : Hid (openE A M s n = 3) := by show _ = _; rw [hE0, hh, if_pos hl]; rfl
          clear h hm he hM hn hf hh hE0
          generalize Led.pos (Led.nm A) s = p at *
          go_enter Try.func18, Try.ntmps18
          go_wp2_with fail
          refine (HM.out _ ((Gr.refl _).alloc.alloc)).mono ?_
          rintro e w1 ⟨rfl, hg1⟩
          obtain ⟨B, R, g1⟩ := HB.out w1 hg1
          have HBB : Hid (TwoAt w1 w.heap.size (.slice adA A.length capA) (.slice adM M.length capM)) := B
          obtain ⟨b0, b1, _, _, bl⟩ := B
          have HR : Hid (TwoAt w1 (w.heap.size + 1) (.slice none 0 0) (.slice none 0 0)) := R
          clear hg1 R
          go_wp2_with fail
          refine (HN.out _).mono ?_
          rintro e w2 ⟨rfl, hw2⟩; obtain rfl := hw2.symm
          go_wp2_with fail
          refine (HT.out _).mono ?_
          rintro e w2 ⟨rfl, hw2⟩; obtain rfl := hw2.symm
          go_wp2_with fail
          refine (HF.out _ g1).mono ?_
          rintro e w3 ⟨rfl, hg3⟩
          obtain ⟨r0, r1, f0, f1, rl⟩ := HR.out.gr hg3
          obtain ⟨b0, b1, _, _, bl⟩ := HBB.out.gr hg3
          have g3 : Gr w w3 := g1.trans hg3
          clear hg3 g1
          go_wp2
          exact bodyPost_ret (v := .tuple #[.agg #[.slice none 0 0, .slice none 0 0], .int .i64 3]) (by simp [results, Try.results18, go_sem, *]) rfl ⟨by rw [HE.out], (g3.set _ (by simp) _).set _ (by simp) _⟩
set_option maxHeartbeats 4000000 in
set_option maxRecDepth 100000 in
theorem open_yes (A : List Acc) (M : List Mk) (s : ByteArray) (n : Int) (adA : Option Addr) (capA : Nat) (adM : Option Addr) (capM : Nat) (w : World) (h : LedAt w adA adM A M) (hs : s.size ≤ 9223372036854775807) (he : openE A M s n = 0) :
    Calls Try.prog 18 #[.agg #[.slice adA A.length capA, .slice adM M.length capM], .string s, .int .i64 n] w fun e w' => ∃ v1 v2, e = .returned (.tuple #[.agg #[v1, v2], .int .i64 0]) ∧ w'.ownsRow w.heap.size 31 7 v1 (A.length + 1) ((openA A s n).flatMap accC) ∧ w'.ownsRow w.heap.size 64 5 v2 M.length (M.flatMap mkC) ∧ Gr w w' := by
  have hall : Led.mayB A M = true ∧ Act.nameB s = true ∧ fitsB n = true ∧ Led.hasB (Led.nm A) s = false ∧ A.length < 12 := by
    unfold openE at he
    by_cases h1 : (Led.mayB A M && (Act.nameB s && fitsB n)) = true
    · rw [if_pos h1] at he
      rw [Bool.and_eq_true, Bool.and_eq_true] at h1
      cases hh : Led.hasB (Led.nm A) s with
      | true => rw [hh] at he; cases he
      | false =>
        rw [hh] at he
        by_cases hl : 12 ≤ A.length
        · rw [if_pos hl] at he; cases he
        · exact ⟨h1.1, h1.2.1, h1.2.2, rfl, by omega⟩
    · rw [if_neg h1] at he; cases he
  obtain ⟨hm, hn, hf, hh, hl⟩ := hall
  have HM : Hid (∀ w', Gr w w' → Calls Try.prog 14 #[.agg #[.slice adA A.length capA, .slice adM M.length capM]] w' fun e w2 => e = .returned (.int .i64 0) ∧ Gr w' w2) := fun w' g => by have := (h.gr g).may capA capM; rw [mayL_yes hm] at this; exact this
  have HN : Hid (∀ w', Calls Try.prog 49 #[.string s] w' fun e w2 => e = .returned (.bool true) ∧ w2 = w') := fun w' => by have := name_any s w' hs; rw [hn] at this; exact this
  have HT : Hid (∀ w', Calls Try.prog 50 #[.int .i64 n] w' fun e w2 => e = .returned (.bool true) ∧ w2 = w') := fun w' => by have := fits_any n w'; change Calls _ _ _ _ (fun e w2 => e = .returned (.bool (fitsB n)) ∧ w2 = w') at this; rw [hf] at this; exact this
  have hmf : ∀ (fn : Fn) (first cap : Array Value) (w : World), (Instr.makeFunc fn first cap).run Try.prog w = .ok (.func fn first cap) w := fun _ _ _ _ => rfl
  have hM := (Led.may_iff A M).1 hm
  have HF : Hid (∀ w', Gr w w' → Calls Try.prog 30 #[.slice adA A.length capA, .string s] w' fun e w2 => e = .returned (.tuple #[.int .i64 (Led.pos (Led.nm A) s : Nat), .bool false]) ∧ Gr w' w2) := fun w' g => by have := findA_any A s adA capA w' (h.a.gr g) hM.ua (by have := hM.la; omega); rw [hh] at this; exact this
  have HCP : Hid (∀ w', Gr w w' → Calls Try.prog 51 #[.agg #[.slice adA A.length capA, .slice adM M.length capM]] w' fun e w2 => ∃ v1 v2, e = .returned (.agg #[v1, v2]) ∧ w2.ownsRow w'.heap.size 31 7 v1 A.length (A.flatMap accC) ∧ w2.ownsRow w'.heap.size 64 5 v2 M.length (M.flatMap mkC) ∧ Gr w' w2) := fun w' g =>
    copied_any A M adA capA adM capM w' (h.a.gr g) (h.m.gr g) (by have := hM.la; omega) (by have := hM.lm; omega) (acc_small hm) (mk_small hm)
  have HC : Hid (∀ w', Calls Try.prog 31 #[.string s] w' fun e w2 => e = .returned (.string s) ∧ Gr w' w2) := fun w' => clone_any s w' (by have := (Act.name_pos hn).2; omega)
  have hpl : Led.pos (Led.nm A) s ≤ A.length := by have := Led.pos_le (Led.nm A) s; rw [Led.nm_len] at this; exact this
  have HI : Hid (∀ (v : Value) (vb base : Nat) (w' : World), base ≤ w'.heap.size → w'.ownsRow base 31 7 v A.length (A.flatMap accC) → w'.heap[vb]? = some (.cells (accC (newA s n)).toArray 31 (0, 0)) → v.ownBlock ≠ some vb →
      Calls Try.prog 52 #[v, .int .i64 (Led.pos (Led.nm A) s : Nat), .slice (some ⟨vb, 0, none⟩) 1 1] w' fun e w2 => ∃ a c, e = .returned (.slice a (A.length + 1) c) ∧ w2.ownsRow base 31 7 (.slice a (A.length + 1) c) (A.length + 1) ((openA A s n).flatMap accC) ∧ w'.grownBy w2 v.ownBlock) := fun v vb base w' h1 h2 h3 h4 =>
    (insA_any A (newA s n) (Led.pos (Led.nm A) s) v vb base w' hpl (by omega) h1 h2 h3 h4).mono (by
      rintro e w2 ⟨v', rfl, h5, h6⟩
      have h7 : w2.ownsRow base 31 7 v' (openA A s n).length ((openA A s n).flatMap accC) := by rw [open_len]; exact h5
      obtain ⟨a, c, rfl, _⟩ := own_row h7
      rw [open_len] at h7 ⊢
      exact ⟨a, c, rfl, h7, h6⟩)
  have hli : ¬ (12 : Int) ≤ (A.length : Int) := by omega
  clear h hm he hM hn hf hh hpl
  generalize (openA A s n).flatMap accC = FL at *
  generalize Led.pos (Led.nm A) s = p at *
  go_enter Try.func18, Try.ntmps18
  go_wp2_with fail
  refine (HM.out _ ((Gr.refl _).alloc.alloc)).mono ?_
  rintro e w1 ⟨rfl, hg1⟩
  have HB1 : Hid (TwoAt w1 w.heap.size (.slice adA A.length capA) (.slice adM M.length capM)) := ((TwoAt.new w _ _ _ _ rfl).gr (Gr.refl _).alloc).gr hg1
  have HR1 : Hid (TwoAt w1 (w.heap.size + 1) (.slice none 0 0) (.slice none 0 0)) := (TwoAt.new _ _ _ _ (w.heap.size + 1) (by simp)).gr hg1
  have g1 : Gr w w1 := (by repeat (first | exact Gr.refl _ | refine Gr.alloc ?_ | refine Gr.drew ?_ | refine Gr.trans ?_ (by assumption)))
  obtain ⟨b0, b1, _, _, bl⟩ := HB1.out
  clear hg1
  go_wp2_with fail
  refine (HN.out _).mono ?_
  rintro e w2 ⟨rfl, hw2⟩; obtain rfl := hw2.symm
  go_wp2_with fail
  refine (HT.out _).mono ?_
  rintro e w2 ⟨rfl, hw2⟩; obtain rfl := hw2.symm
  go_wp2_with fail
  refine (HF.out _ g1).mono ?_
  rintro e w3 ⟨rfl, hg3⟩
  have HB3 : Hid (TwoAt w3 w.heap.size (.slice adA A.length capA) (.slice adM M.length capM)) := HB1.out.gr hg3
  have HR3 : Hid (TwoAt w3 (w.heap.size + 1) (.slice none 0 0) (.slice none 0 0)) := HR1.out.gr hg3
  have g3 : Gr w w3 := g1.trans hg3
  obtain ⟨b0, b1, _, _, bl⟩ := HB3.out
  clear hg3 g1 HB1 HR1
  go_wp2_with fail
  refine (HCP.out _ g3).mono ?_
  rintro e w4 ⟨v1, v2, rfl, ho1, ho2, hg4⟩
  obtain ⟨ad1, cap1, rfl, _⟩ := own_row ho1
  obtain ⟨ad2, cap2, rfl, _⟩ := own_row ho2
  have hr3 : w.heap.size + 1 < w3.heap.size := HR3.out.lt
  have HB4 : Hid (TwoAt w4 w.heap.size (.slice adA A.length capA) (.slice adM M.length capM)) := HB3.out.gr hg4
  have HR4 : Hid (TwoAt w4 (w.heap.size + 1) (.slice none 0 0) (.slice none 0 0)) := HR3.out.gr hg4
  have g4 : Gr w w4 := g3.trans hg4
  obtain ⟨b0, b1, bf0, bf1, bl⟩ := HB4.out
  have HI4 : Hid (∀ W, W = ((w4.setCell ⟨w.heap.size, 0, none⟩ (.slice ad1 A.length cap1)).setCell ⟨w.heap.size, 1, none⟩ (.slice ad2 M.length cap2)) → CopyInv w A M (.slice ad1 A.length cap1) (.slice ad2 M.length cap2) W) := by
    intro W hW
    subst hW
    have m1 : (Value.slice ad1 A.length cap1).ownBlock ≠ some w.heap.size := fun h => by have := (ho1.lt _ h).1; omega
    have m2 : (Value.slice ad2 M.length cap2).ownBlock ≠ some w.heap.size := fun h => by have := (ho2.lt _ h).1; omega
    exact ⟨HB4.out.set2 _ _, (HR4.out.far _ _ (by simp)).far _ _ (by simp), own_far (own_far (own_low ho1 (by omega)) _ _ m1) _ _ m1, own_far (own_far (own_low ho2 (by omega)) _ _ m2) _ _ m2, (g4.set _ (by simp) _).set _ (by simp) _⟩
  clear ho1 ho2 hg4 g3 HB3 HR3 HR4 HB4
  go_upto_region 10 with fail
  obtain ⟨W, hW⟩ : ∃ W, W = ((w4.setCell ⟨w.heap.size, 0, none⟩ (.slice ad1 A.length cap1)).setCell ⟨w.heap.size, 1, none⟩ (.slice ad2 M.length cap2)) := ⟨_, rfl⟩
  have HI5 : Hid (CopyInv w A M (.slice ad1 A.length cap1) (.slice ad2 M.length cap2) W) := HI4.out W hW
  rw [← hW]
  clear hW HI4 b0 b1 bf0 bf1 bl g4
  have hk : Gr w W.drew ∧ W.drew.cell? ⟨w.heap.size, 0, none⟩ = some (.slice ad1 A.length cap1) := ⟨HI5.out.g.drew, HI5.out.bx.c0⟩
  refine beginL 11 (fun w' => Gr w w' ∧ w'.cell? ⟨w.heap.size, 0, none⟩ = some (.slice ad1 A.length cap1)) (by kernel_rfl) (by first | with_reducible exact hk | with_reducible exact ⟨hk.1.alloc, (Gr.refl _).alloc.keep hk.2⟩) (fun hHeld => ?_)
  refine takeW 0 43 (v := ?_) rfl rfl (by decide) (by kernel_rfl) (by kernel_rfl) (by kernel_rfl) (fun _ _ _ h => h) (by rfl) ?_ (fun _ => hHeld) ?_
  rotate_left
  · (intro w; (try intro hSw); (try dsimp only at hSw); go_simp; try with_reducible rfl)
  simp only [Act.put, List.setIfInBounds_toArray, List.set_cons_zero, List.set_cons_succ]
  refine takeS 1 44 (v := ?_) rfl rfl (by decide) (by kernel_rfl) (by kernel_rfl) (by kernel_rfl) (by kernel_rfl) (by kernel_rfl) (fun _ _ _ h => h) (by rfl) ?_ hHeld ?_
  rotate_left
  · (intro w; (try intro hSw); (try dsimp only at hSw); go_simp; try with_reducible rfl)
  simp only [Act.put, List.setIfInBounds_toArray, List.set_cons_zero, List.set_cons_succ]
  refine takeW 2 45 (v := ?_) rfl rfl (by decide) (by kernel_rfl) (by kernel_rfl) (by kernel_rfl) (fun _ _ _ h => h) (by rfl) ?_ (fun _ => hHeld) ?_
  rotate_left
  · (intro w; (try intro hSw); (try dsimp only at hSw); go_simp; try with_reducible rfl)
  simp only [Act.put, List.setIfInBounds_toArray, List.set_cons_zero, List.set_cons_succ]
  refine takeW 3 46 (v := ?_) rfl rfl (by decide) (by kernel_rfl) (by kernel_rfl) (by kernel_rfl) (fun _ _ _ h => h) (by rfl) ?_ (fun _ => hHeld) ?_
  rotate_left
  · (intro w; (try intro hSw); (try dsimp only at hSw); go_simp; try with_reducible rfl)
  simp only [Act.put, List.setIfInBounds_toArray, List.set_cons_zero, List.set_cons_succ]
  refine takeW 5 48 (v := ?_) rfl rfl (by decide) (by kernel_rfl) (by kernel_rfl) (by kernel_rfl) (fun _ _ _ h => h) (by rfl) ?_ (fun _ => hHeld) ?_
  rotate_left
  · (intro w; (try intro hSw); (try dsimp only at hSw); go_simp; try with_reducible rfl)
  simp only [Act.put, List.setIfInBounds_toArray, List.set_cons_zero, List.set_cons_succ]
  refine takeW 6 49 (v := ?_) rfl rfl (by decide) (by kernel_rfl) (by kernel_rfl) (by kernel_rfl) (fun _ _ _ h => h) (by rfl) ?_ (fun _ => hHeld) ?_
  rotate_left
  · (intro w; (try intro hSw); (try dsimp only at hSw); go_simp; try with_reducible rfl)
  simp only [Act.put, List.setIfInBounds_toArray, List.set_cons_zero, List.set_cons_succ]
  refine stepC 4 (by kernel_rfl) rfl (fun K hK => ?_)
  go_simp
  (go_at_call 31; refine (HC.out _).mono ?_; rintro e wn ⟨rfl, hgn⟩; replace hk : Gr w wn ∧ wn.cell? ⟨w.heap.size, 0, none⟩ = some (.slice ad1 A.length cap1) := ⟨hk.1.trans hgn, hgn.keep hk.2⟩)
  (try go_wp2_with fail)
  refine hK.out _ _ (by first | with_reducible exact hk | with_reducible exact ⟨hk.1.alloc, (Gr.refl _).alloc.keep hk.2⟩) (fun hHeldN => ?_)
  clear hHeld hK K
  have hHeld := hHeldN
  clear hHeldN
  refine takeW 7 50 (v := ?_) rfl rfl (by decide) (by kernel_rfl) (by kernel_rfl) (by kernel_rfl) (fun _ _ _ h => h) (by rfl) ?_ (fun _ => hHeld) ?_
  rotate_left
  · (intro w; (try intro hSw); (try dsimp only at hSw); go_simp; try with_reducible rfl)
  simp only [Act.put, List.setIfInBounds_toArray, List.set_cons_zero, List.set_cons_succ]
  refine stepC 8 (by kernel_rfl) rfl (fun K hK => ?_)
  go_simp
  refine hK.out _ _ (by first | with_reducible exact hk | with_reducible exact ⟨hk.1.alloc, (Gr.refl _).alloc.keep hk.2⟩) (fun hHeldN => ?_)
  clear hHeld hK K
  have hHeld := hHeldN
  clear hHeldN
  have HI6 : Hid (CopyInv w A M (.slice ad1 A.length cap1) (.slice ad2 M.length cap2) (wn.alloc (.cells (accC (newA s n)).toArray 31))) := (HI5.out.gr ((Gr.refl W).drew.trans hgn)).gr (Gr.refl _).alloc
  have hvn : (Value.slice ad1 A.length cap1).ownBlock ≠ some wn.heap.size := fun h => by
    have := ((HI5.out.gr ((Gr.refl W).drew.trans hgn)).r1.lt _ h).2
    omega
  refine stepC 9 (by kernel_rfl) rfl (fun K hK => ?_)
  go_simp
  (go_at_call 52; refine (HI.out _ wn.heap.size (w.heap.size + 2) _ (by have := HI6.out.bx.lt; have := HI6.out.rs.lt; simp at *; omega) HI6.out.r1 (heap_alloc_new wn _) hvn).mono ?_; rintro e w6 ⟨a6, c6, rfl, ho6, hgr6⟩; replace hk : Gr w w6 ∧ w6.cell? ⟨w.heap.size, 0, none⟩ = some (.slice ad1 A.length cap1) := ⟨HI6.out.g.grown hgr6 (fun g hg => by have := (HI6.out.r1.lt g hg).1; omega), hgr6.cell HI6.out.bx.c0 (fun h => by have h9 : w.heap.size + 2 ≤ w.heap.size := (HI6.out.r1.lt _ h.symm).1; omega)⟩)
  (try go_wp2_with fail)
  refine hK.out _ _ (by first | with_reducible exact hk | with_reducible exact ⟨hk.1.alloc, (Gr.refl _).alloc.keep hk.2⟩) (fun hHeldN => ?_)
  clear hHeld hK K
  have hHeld := hHeldN
  clear hHeldN
  have nb : some w.heap.size ≠ (Value.slice ad1 A.length cap1).ownBlock := fun h => by have h9 : w.heap.size + 2 ≤ w.heap.size := (HI6.out.r1.lt _ h.symm).1; omega
  have nr : some (w.heap.size + 1) ≠ (Value.slice ad1 A.length cap1).ownBlock := fun h => by have h9 : w.heap.size + 2 ≤ w.heap.size + 1 := (HI6.out.r1.lt _ h.symm).1; omega
  have B6 := HI6.out.bx.grown hgr6 nb
  have R6 := HI6.out.rs.grown hgr6 nr
  have HO6 : Hid (w6.ownsRow (w.heap.size + 2) 31 7 (.slice a6 (A.length + 1) c6) (A.length + 1) FL) := ho6
  have HP6 : Hid (w6.ownsRow (w.heap.size + 2) 64 5 (.slice ad2 M.length cap2) M.length (M.flatMap mkC)) := HI6.out.r2.kept hgr6 (by
    cases hv : (Value.slice ad1 A.length cap1).ownBlock with
    | none => exact (own_or _)
    | some g => exact Or.inr (own_apart HI6.out.r1 HI6.out.r2 (by decide) hv))
  have HG6 : Hid (Gr w w6) := hk.1
  obtain ⟨b0, b1, bf0, bf1, bl⟩ := B6
  obtain ⟨r0, r1, f0, f1, rl⟩ := R6
  clear hgn hvn hgr6 ho6 HI5 HI6 nb nr
  refine takeW 10 53 (v := ?_) rfl rfl (by decide) (by kernel_rfl) (by kernel_rfl) (by kernel_rfl) (fun _ _ _ h => h) (by rfl) ?_ (fun _ => hHeld) ?_
  rotate_left
  · (intro w; (try intro hSw); (try dsimp only at hSw); go_simp; try with_reducible rfl)
  simp only [Act.put, List.setIfInBounds_toArray, List.set_cons_zero, List.set_cons_succ]
  refine stepS (by kernel_rfl) rfl (by kernel_rfl) (fun K hK => ?_)
  go_simp
  refine hK.out _ _ ?_
  clear hHeld hK K
  refine doneL (by kernel_rfl) ?_ _
  have HFin : Hid (∀ W, W = (((w6.setCell ⟨w.heap.size, 0, none⟩ (.slice a6 (A.length + 1) c6)).setCell ⟨w.heap.size + 1, 0, none⟩ (.slice a6 (A.length + 1) c6)).setCell ⟨w.heap.size + 1, 1, none⟩ (.slice ad2 M.length cap2)) →
      W.ownsRow w.heap.size 31 7 (.slice a6 (A.length + 1) c6) (A.length + 1) FL ∧ W.ownsRow w.heap.size 64 5 (.slice ad2 M.length cap2) M.length (M.flatMap mkC) ∧ Gr w W) := by
    intro W hW
    subst hW
    have m1 : ∀ i, i < w.heap.size + 2 → (Value.slice a6 (A.length + 1) c6).ownBlock ≠ some i := fun i hi h => by have := (HO6.out.lt _ h).1; omega
    have m2 : ∀ i, i < w.heap.size + 2 → (Value.slice ad2 M.length cap2).ownBlock ≠ some i := fun i hi h => by have := (HP6.out.lt _ h).1; omega
    exact ⟨own_far (own_far (own_far (own_low HO6.out (by omega)) _ _ (m1 _ (by simp))) _ _ (m1 _ (by simp))) _ _ (m1 _ (by simp)), own_far (own_far (own_far (own_low HP6.out (by omega)) _ _ (m2 _ (by simp))) _ _ (m2 _ (by simp))) _ _ (m2 _ (by simp)), ((HG6.out.set _ (by simp) _).set _ (by simp) _).set _ (by simp) _⟩
  clear hk
  go_wp2
  exact bodyPost_ret (v := .tuple #[.agg #[.slice a6 (A.length + 1) c6, .slice ad2 M.length cap2], .int .i64 0]) (by simp [results, Try.results18, go_sem, *]) rfl ⟨_, _, rfl, HFin.out _ rfl⟩
end Go.Proofs.Ytgidkmipecfjhaa
