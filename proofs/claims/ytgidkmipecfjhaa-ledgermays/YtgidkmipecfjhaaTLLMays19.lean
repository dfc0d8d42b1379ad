/- What the proof is made of, part 19. -/
import Derived.Test.YtgidkmipecfjhaaTLLMays18
import Derived.ChangeSame
namespace Go.Proofs.Ytgidkmipecfjhaa
open Go.ChangeShapes Go.WideShapes Go.ChangeAt Go.RowKit
open Led (Acc Mk)
theorem row_of {α : Type} {f : α → List Value} {c : Nat} (hc : ∀ x, (f x).length = c) (h0 : 0 < c) {w : World} {b off : Nat} {L : List α}
    (each : ∀ q (h : q < L.length) r u, (f L[q])[r]? = some u → w.cell? ⟨b, off + (q * c + r), none⟩ = some u) : RowAt f w (some ⟨b, off, none⟩) L := by
  intro j u hu
  have hj : j < (L.flatMap f).length := by
    rcases Nat.lt_or_ge j (L.flatMap f).length with h | h
    · exact h
    · rw [List.getElem?_eq_none h] at hu; cases hu
  rw [flat_len hc] at hj
  have hr : j % c < c := Nat.mod_lt _ h0
  have hq : j / c < L.length := Nat.div_lt_of_lt_mul (by rw [Nat.mul_comm]; exact hj)
  have e : j = j / c * c + j % c := by rw [Nat.mul_comm]; exact (Nat.div_add_mod j c).symm
  rw [e, flat_get hc L (j / c) hq (j % c) hr] at hu
  have h := each (j / c) hq (j % c) u hu
  rw [← e] at h
  exact ⟨b, off, rfl, World.block_lt_of_cell? w _ h, h⟩
theorem open_rows {α : Type} [Inhabited α] {f : α → List Value} {c : Nat} (hc : ∀ x, (f x).length = c) (h0 : 0 < c) {In : α → Prop} {t e : TypeId} (ht : Try.prog.underlying t = some (.slice e)) (ce : Try.prog.cellsOf e = c)
    {H : Type} {enc : TypeId × Value → H} {W : World} {base : Nat} {sp : Nat → Bool} {held : Bool} {fuel : Nat} {a0 : Option Addr} {len0 cap0 : Nat} {x : DataW H × List MemPlace}
    (elem : ∀ (n : Nat) (cs : List Value) (y : DataW H × List MemPlace), cs.length = c → DataW.trod enc Try.prog W base sp held n e cs = some y → ∃ z : α, cs = f z ∧ In z)
    (hf : DataW.trod enc Try.prog W base sp held fuel t [.slice a0 len0 cap0] = some x) :
    ∃ L : List α, len0 = L.length ∧ RowAt f W a0 L ∧ L.length ≤ 9223372036854775807 ∧ ∀ y ∈ L, In y := by
  rcases Deep.open_slice ht hf with ⟨hcs, _⟩ | ⟨a, len, cap, m, n, D, Pl, hcs, _, hl, hm, hmm, _, hx⟩
  · simp at hcs
    obtain ⟨rfl, rfl, rfl⟩ := hcs
    exact ⟨[], rfl, RowAt.nil, by simp, by simp⟩
  · simp at hcs
    obtain ⟨rfl, rfl, rfl⟩ := hcs
    have hlm : len0 ≤ m := by rw [hmm]; split <;> omega
    have each : ∀ i, i < len0 → ∃ z : α, (∀ r u, (f z)[r]? = some u → W.cell? (a.add (i * c + r)) = some u) ∧ In z := by
      intro i hi
      obtain ⟨cs, h1, h2⟩ := hx i (by omega)
      rw [ce] at h1
      obtain ⟨_, hlen, hcell⟩ := World.cells?_some h1
      obtain ⟨z, rfl, hz⟩ := elem n cs _ hlen h2
      refine ⟨z, fun r u hu => ?_, hz⟩
      have hr : r < c := by
        rcases Nat.lt_or_ge r (f z).length with h | h
        · rw [hc] at h; exact h
        · rw [List.getElem?_eq_none h] at hu; cases hu
      have c0 := hcell r hr
      rw [Deep.add_add] at c0
      rw [c0, ← hu]
    obtain ⟨g, hg⟩ := Deep.choose_lt each
    unfold maxLen at hm
    refine ⟨(List.range len0).map g, by simp, ?_, by simp; omega, ?_⟩
    · cases len0 with
      | zero => simp; exact RowAt.nil
      | succ l =>
        obtain ⟨b, off, spot⟩ := a
        have h00 : 0 < (f (g 0)).length := by rw [hc]; exact h0
        have hspot : spot = none := by
          have := World.cell?_spot ((hg 0 (by omega)).1 0 _ (List.getElem?_eq_getElem h00))
          simpa [Addr.add] using this
        subst hspot
        refine row_of hc h0 fun q hq r u hu => ?_
        have hq' : q < l + 1 := by simpa using hq
        have := (hg q hq').1 r u (by simpa using hu)
        rwa [Addr.add_lit] at this
    · intro y hy
      obtain ⟨j, hj, rfl⟩ := List.mem_map.1 hy
      exact (hg j (by simpa using hj)).2
theorem trod_pot {H : Type} {enc : TypeId × Value → H} {W : World} {base : Nat} {sp : Nat → Bool} {held : Bool} {fuel : Nat} {u v q : Value} {x : DataW H × List MemPlace}
    (h : DataW.trod enc Try.prog W base sp held fuel 29 [u, v, q] = some x) : ∃ a b c, u = .int .i64 a ∧ v = .int .i64 b ∧ q = .int .i64 c ∧ inI a ∧ inI b ∧ inI c := by
  obtain ⟨y0, y1, y2, n, _, _, t0, t1, t2⟩ := Deep.trod_struct3 Try.underlying29 h
  have k0 : Try.prog.cellsOf 2 = 1 := by kernel_rfl
  simp [k0] at t0 t1 t2
  obtain ⟨z0, e0, _, r0⟩ := DataW.trod_int Try.underlying2 t0
  obtain ⟨z1, e1, _, r1⟩ := DataW.trod_int Try.underlying2 t1
  obtain ⟨z2, e2, _, r2⟩ := DataW.trod_int Try.underlying2 t2
  simp at e0 e1 e2
  subst e0 e1 e2
  exact ⟨z0, z1, z2, rfl, rfl, rfl, rng_i64 r0, rng_i64 r1, rng_i64 r2⟩
set_option maxRecDepth 100000 in
theorem trod_acc {H : Type} {enc : TypeId × Value → H} {W : World} {base : Nat} {sp : Nat → Bool} {held : Bool} (n : Nat) (cs : List Value) (y : DataW H × List MemPlace) (hl : cs.length = 7)
    (h : DataW.trod enc Try.prog W base sp held n 31 cs = some y) : ∃ z : Acc, cs = accC z ∧ inA z := by
  match cs, hl with
  | [v0, v1, v2, v3, v4, v5, v6], _ =>
    obtain ⟨y0, y1, y2, n, _, _, t0, t1, t2⟩ := Deep.trod_struct3 Try.underlying31 h
    have k1 : Try.prog.cellsOf 9 = 1 := by kernel_rfl
    have k3 : Try.prog.cellsOf 29 = 3 := by kernel_rfl
    simp [k1, k3] at t0 t1 t2
    obtain ⟨s, e0, _, r0⟩ := DataW.trod_string Try.underlying9 t0
    simp at e0
    subst e0
    obtain ⟨a, b, c, rfl, rfl, rfl, h1⟩ := trod_pot t1
    obtain ⟨x, y, z, rfl, rfl, rfl, h2, h3, h4⟩ := trod_pot t2
    unfold maxLen at r0
    exact ⟨⟨s, a, b, c, x, y, z⟩, rfl, (by show s.size ≤ _; omega), h1, h2, h3, h4⟩
set_option maxRecDepth 100000 in
theorem trod_mk {H : Type} {enc : TypeId × Value → H} {W : World} {base : Nat} {sp : Nat → Bool} {held : Bool} (n : Nat) (cs : List Value) (y : DataW H × List MemPlace) (hl : cs.length = 5)
    (h : DataW.trod enc Try.prog W base sp held n 64 cs = some y) : ∃ z : Mk, cs = mkC z ∧ inM z := by
  match cs, hl with
  | [v0, v1, v2, v3, v4], _ =>
    obtain ⟨y0, y1, y2, n, _, _, t0, t1, t2⟩ := Deep.trod_struct3 Try.underlying64 h
    have k1 : Try.prog.cellsOf 9 = 1 := by kernel_rfl
    have k0 : Try.prog.cellsOf 3 = 1 := by kernel_rfl
    have k3 : Try.prog.cellsOf 44 = 3 := by kernel_rfl
    simp [k0, k1, k3] at t0 t1 t2
    obtain ⟨s, e0, _, r0⟩ := DataW.trod_string Try.underlying9 t0
    obtain ⟨st, e2, _, r2⟩ := DataW.trod_int Try.underlying3 t2
    simp at e0 e2
    subst e0 e2
    obtain ⟨k, t, m, rfl, rfl, rfl, h1, h2, h3⟩ := trod_act t1
    unfold maxLen at r0
    exact ⟨⟨s, k, t, m, st⟩, rfl, (by show s.size ≤ _; omega), h1, h2, h3, rng_i64 r2⟩
set_option maxRecDepth 100000 in
theorem open_led {H : Type} {enc : TypeId × Value → H} {W : World} {base : Nat} {v : Value} {d : DataW H} {ps : List MemPlace}
    (hok : Value.okWide Try.prog W .any base 25 v) (h : DataW.Trod enc Try.prog W 0 (fun _ => true) true 25 v d ps) :
    ∃ adA capA adM capM, ∃ (A : List Acc) (M : List Mk), v = .agg #[.slice adA A.length capA, .slice adM M.length capM] ∧ LedAt W adA adM A M := by
  obtain ⟨cs, rfl, hsz⟩ := okWide_struct Try.underlying25 hok
  have hsz2 : cs.size = 2 := hsz.trans (by kernel_rfl)
  obtain ⟨l⟩ := cs
  match l, hsz2 with
  | [v0, v1], _ =>
    obtain ⟨fuel, hf⟩ := h
    simp only [Value.cells] at hf
    obtain ⟨y0, y1, n, _, _, t0, t1⟩ := trod_struct2 Try.underlying25 hf
    have k0 : Try.prog.cellsOf 22 = 1 := by kernel_rfl
    have k1 : Try.prog.cellsOf 23 = 1 := by kernel_rfl
    simp [k0, k1] at t0 t1
    have s0 : ∃ a l c, v0 = .slice a l c := by
      rcases Deep.open_slice Try.underlying22 t0 with ⟨hcs, _⟩ | ⟨a, len, cap, _, _, _, _, hcs, _⟩
      · simp at hcs; exact ⟨_, _, _, hcs⟩
      · simp at hcs; exact ⟨_, _, _, hcs⟩
    have s1 : ∃ a l c, v1 = .slice a l c := by
      rcases Deep.open_slice Try.underlying23 t1 with ⟨hcs, _⟩ | ⟨a, len, cap, _, _, _, _, hcs, _⟩
      · simp at hcs; exact ⟨_, _, _, hcs⟩
      · simp at hcs; exact ⟨_, _, _, hcs⟩
    obtain ⟨a, la, ca, rfl⟩ := s0
    obtain ⟨b, lb, cb, rfl⟩ := s1
    have hiA : Inhabited Acc := ⟨accZ⟩
    have hiM : Inhabited Mk := ⟨mkZ⟩
    obtain ⟨A, rfl, h1, h2, h3⟩ := open_rows accC_len (by decide) Try.underlying22 (by kernel_rfl) trod_acc t0
    obtain ⟨M, rfl, h4, h5, h6⟩ := open_rows mkC_len (by decide) Try.underlying23 (by kernel_rfl) trod_mk t1
    exact ⟨a, ca, b, cb, A, M, rfl, h1, h4, h3, h6, h2, h5⟩
def IsB (e : Ending) : Prop := ∃ b : Bool, e = .returned (.bool b)
set_option maxHeartbeats 2000000 in
set_option maxRecDepth 100000 in
theorem small_some (A : List Acc) (M : List Mk) (adA : Option Addr) (capA : Nat) (adM : Option Addr) (capM : Nat) (w : World) (h : MksAt w adM M) (_hnA : A.length ≤ 9223372036854775807) (hnM : M.length ≤ 9223372036854775807) :
    Calls Try.prog 8 #[.agg #[.slice adA A.length capA, .slice adM M.length capM]] w fun e w' => IsB e ∧ Gr w w' := by
  have H : Hid (MksAt w adM M) := h
  clear h
  have early : ∀ b1 b2 b3 b4 : Bool, decide ((100 : Int) < (A.length : Int)) = b1 → decide ((150 : Int) < (M.length : Int)) = b2 → decide ((M.length : Int) ≤ 500) = b3 → decide ((1000 : Int) < (M.length : Int)) = b4 →
      Calls Try.prog 8 #[.agg #[.slice adA A.length capA, .slice adM M.length capM]] w fun e w' => IsB e ∧ Gr w w' := by
    intro b1 b2 b3 b4 h1 h2 h3 h4
    have loop : b1 = false → (b2 && b3) = false → b4 = false → Calls Try.prog 8 #[.agg #[.slice adA A.length capA, .slice adM M.length capM]] w fun e w' => IsB e ∧ Gr w w' := by
      intro e1 e2 e4
      subst e1 e4
      cases b2 <;> cases b3 <;> first | cases e2 | skip
      all_goals
        go_enter Try.func8, Try.ntmps8
        go_wp2
        clear h1 h2 h3 h4
        go_loopw [3] (fun ix wr => ∃ k : Nat, k ≤ M.length ∧ ix = .int .i64 k ∧ TwoAt wr w.heap.size (.slice adA A.length capA) (.slice adM M.length capM) ∧ Gr w wr) (fun ix _ => M.length - (intOf ix).toNat)
        case atStart => exact ⟨0, by omega, rfl, TwoAt.new w _ _ _ _ rfl, (Gr.refl _).alloc⟩
        case round =>
          obtain ⟨k, hk, rfl, hbx, hg⟩ := hrel
          have HB : Hid (TwoAt wr w.heap.size (.slice adA A.length capA) (.slice adM M.length capM)) := hbx
          have HG : Hid (Gr w wr) := hg
          obtain ⟨b0, b1, _, _, bl⟩ := hbx
          clear hg
          by_cases hlt : k < M.length
          · obtain ⟨b, off, rfl, hb, c0, c1, c2, c3, c4⟩ := MksAt.at H.out k hlt
            have hki : (k : Int) < (M.length : Int) := by omega
            have e0 := HG.out.keep c0
            have hbw : b < wr.heap.size := Nat.lt_of_lt_of_le hb HG.out.size
            generalize M[k].key = x at e0
            clear c0 c1 c2 c3 c4 hb
            by_cases hs : (1000 : Int) < (x.size : Int)
            · go_wp2
              go_ret
              exact ⟨⟨_, rfl⟩, HG.out⟩
            · go_wp2
              go_roundw
              case rel => exact ⟨k + 1, by omega, by go_num, HB.out, HG.out⟩
              case measure => simp [intOf]; omega
          · have hki : ¬ (k : Int) < (M.length : Int) := by omega
            go_wp2
            go_ret
            exact ⟨⟨_, rfl⟩, HG.out⟩
    cases b1 with
    | true =>
      go_enter Try.func8, Try.ntmps8
      go_wp2
      go_ret
      exact ⟨⟨_, rfl⟩, (by repeat (first | exact Gr.refl _ | refine Gr.alloc ?_ | refine Gr.drew ?_ | refine Gr.trans ?_ (by assumption)))⟩
    | false =>
      cases b4 with
      | true =>
        cases b2 <;> cases b3
        all_goals
          go_enter Try.func8, Try.ntmps8
          go_wp2
          go_ret
          exact ⟨⟨_, rfl⟩, (by repeat (first | exact Gr.refl _ | refine Gr.alloc ?_ | refine Gr.drew ?_ | refine Gr.trans ?_ (by assumption)))⟩
      | false =>
        cases b2 with
        | false => exact loop rfl rfl rfl
        | true =>
          cases b3 with
          | false => exact loop rfl rfl rfl
          | true =>
            go_enter Try.func8, Try.ntmps8
            go_wp2
            go_ret
            exact ⟨⟨_, rfl⟩, (by repeat (first | exact Gr.refl _ | refine Gr.alloc ?_ | refine Gr.drew ?_ | refine Gr.trans ?_ (by assumption)))⟩
  exact early _ _ _ _ rfl rfl rfl rfl
end Go.Proofs.Ytgidkmipecfjhaa
namespace Go.Proofs.Ytgidkmipecfjhaa
open Go.RowKit
open Led (Acc Mk)
def firstN (L : List ByteArray) (s : ByteArray) : Nat := (L.takeWhile (fun x => !decide (x = s))).length
def firstI (L : List ByteArray) (s : ByteArray) : Int := if Led.hasB L s = true then (firstN L s : Int) else -1
theorem first_at : ∀ (L : List ByteArray) (s : ByteArray) (k : Nat) (h : k < L.length), L[k] = s → (∀ j (hj : j < L.length), j < k → L[j] ≠ s) → firstN L s = k
  | [], _, _, h, _, _ => by simp at h
  | x :: t, s, 0, _, e, _ => by
    unfold firstN
    simp at e
    simp [e]
  | x :: t, s, k + 1, h, e, hb => by
    have h0 := hb 0 (by simp) (by omega)
    simp at h0 e
    have := first_at t s k (by simpa using h) e (fun j hj hk => by have := hb (j + 1) (by simpa using hj) (by omega); simpa using this)
    unfold firstN at this ⊢
    simp [h0, this]
theorem first_yes {L : List ByteArray} {s : ByteArray} {k : Nat} (h : k < L.length) (e : L[k] = s) (hb : ∀ j (hj : j < L.length), j < k → L[j] ≠ s) : firstI L s = k := by
  unfold firstI
  rw [if_pos ((Led.has_iff L s).2 (by rw [← e]; exact List.getElem_mem h)), first_at L s k h e hb]
theorem first_no {L : List ByteArray} {s : ByteArray} (hb : ∀ j (hj : j < L.length), L[j] ≠ s) : firstI L s = -1 := by
  unfold firstI
  rw [if_neg]
  intro h
  obtain ⟨j, hj, e⟩ := List.mem_iff_getElem.1 ((Led.has_iff L s).1 h)
  exact hb j hj e
theorem first_pos {L : List ByteArray} {s : ByteArray} (hu : Led.upB L = true) (hm : Led.hasB L s = true) : firstI L s = (Led.pos L s : Nat) := by
  obtain ⟨h, e⟩ := Led.pos_mem hu ((Led.has_iff L s).1 hm)
  exact first_yes h e fun j hj hk e2 => by have := Led.up_one hu hj h (e2.trans e.symm); omega
theorem first_neg {L : List ByteArray} {s : ByteArray} (hm : Led.hasB L s = false) : firstI L s = -1 := by unfold firstI; rw [hm]; rfl
theorem first_sign (L : List ByteArray) (s : ByteArray) : (firstI L s < 0 ↔ Led.hasB L s = false) := by
  cases h : Led.hasB L s with
  | true => unfold firstI; rw [h, if_pos rfl]; constructor
            · intro h2; omega
            · intro h2; cases h2
  | false => rw [first_neg h]; simp
theorem refKey_any (s : ByteArray) (w : World) (hs : s.size ≤ 9223372036854775807) : Calls Try.prog 43 #[.string s] w fun e w' => e = .returned (.bool (Led.keyB s)) ∧ w' = w := by
  unfold Led.keyB
  by_cases h1 : 0 < s.size
  · have h3 : (1 : Int) ≤ (s.size : Int) := by omega
    rw [decide_eq_true h1]
    by_cases h2 : s.size ≤ 100
    · have h4 : (s.size : Int) ≤ 100 := by omega
      rw [decide_eq_true h2]
      clear h1 h2
      go_enter Try.func43, Try.ntmps43
      go_wp2
      go_ret
      exact ⟨rfl, rfl⟩
    · have h4 : ¬ (s.size : Int) ≤ 100 := by omega
      rw [decide_eq_false h2]
      clear h1 h2
      go_enter Try.func43, Try.ntmps43
      go_wp2
      go_ret
      exact ⟨rfl, rfl⟩
  · have h3 : ¬ (1 : Int) ≤ (s.size : Int) := by omega
    rw [decide_eq_false h1, Bool.false_and]
    clear h1
    go_enter Try.func43, Try.ntmps43
    go_wp2
    go_ret
    exact ⟨rfl, rfl⟩
set_option maxHeartbeats 2000000 in
set_option maxRecDepth 100000 in
theorem refAcc_any (A : List Acc) (M : List Mk) (s : ByteArray) (adA : Option Addr) (capA : Nat) (adM : Option Addr) (capM : Nat) (w : World) (h : AccsAt w adA A) (hn : A.length ≤ 9223372036854775807) :
    Calls Try.prog 32 #[.agg #[.slice adA A.length capA, .slice adM M.length capM], .string s] w fun e w' => e = .returned (.int .i64 (firstI (Led.nm A) s)) ∧ Gr w w' := by
  have H : Hid (AccsAt w adA A) := h
  clear h
  go_enter Try.func32, Try.ntmps32
  go_wp2
  go_loopw [5] (fun ix wr => ∃ k : Nat, k ≤ A.length ∧ ix = .int .i64 k ∧ TwoAt wr w.heap.size (.slice adA A.length capA) (.slice adM M.length capM) ∧ Gr w wr ∧ ∀ j (h : j < (Led.nm A).length), j < k → (Led.nm A)[j] ≠ s)
      (fun ix _ => A.length - (intOf ix).toNat)
  case atStart => exact ⟨0, by omega, rfl, TwoAt.new w _ _ _ _ rfl, (Gr.refl _).alloc, fun j _ hj => absurd hj (by omega)⟩
  case round =>
    obtain ⟨k, hk, rfl, hbx, hg, hall⟩ := hrel
    have HB : Hid (TwoAt wr w.heap.size (.slice adA A.length capA) (.slice adM M.length capM)) := hbx
    have HG : Hid (Gr w wr) := hg
    have HL : Hid (∀ j (h : j < (Led.nm A).length), j < k → (Led.nm A)[j] ≠ s) := hall
    obtain ⟨b0, b1, _, _, bl⟩ := hbx
    clear hg hall
    by_cases hlt : k < A.length
    · obtain ⟨b, off, rfl, hb, c0, c1, c2, c3, c4, c5, c6⟩ := AccsAt.at H.out k hlt
      have hki : (k : Int) < (A.length : Int) := by omega
      have e0 := HG.out.keep c0
      have hbw : b < wr.heap.size := Nat.lt_of_lt_of_le hb HG.out.size
      have hkn : k < (Led.nm A).length := by rw [Led.nm_len]; exact hlt
      have hnk : (Led.nm A)[k] = A[k].s := Led.nm_get A k hlt
      generalize A[k].s = x at e0 hnk
      clear c0 c1 c2 c3 c4 c5 c6 hb
      by_cases he : x = s
      · subst he
        have HR : Hid (firstI (Led.nm A) x = k) := first_yes hkn hnk HL.out
        clear hnk
        go_wp2
        go_ret
        exact ⟨by rw [HR.out]; rfl, HG.out⟩
      · have hne := neB he
        have HN : Hid (∀ j (h : j < (Led.nm A).length), j < k + 1 → (Led.nm A)[j] ≠ s) := fun j h1 h2 => by
          rcases Nat.lt_or_ge j k with h3 | h3
          · exact HL.out j h1 h3
          · have : j = k := by omega
            subst this; rw [hnk]; exact he
        clear hnk he
        go_wp2
        go_roundw
        case rel => exact ⟨k + 1, by omega, by go_num, HB.out, HG.out, HN.out⟩
        case measure => simp [intOf]; omega
    · have hki : ¬ (k : Int) < (A.length : Int) := by omega
      have HR : Hid (firstI (Led.nm A) s = -1) := first_no fun j hj => HL.out j hj (by rw [Led.nm_len] at hj; omega)
      go_wp2
      go_ret
      exact ⟨by rw [HR.out]; rfl, HG.out⟩
set_option maxHeartbeats 2000000 in
set_option maxRecDepth 100000 in
theorem refMk_any (A : List Acc) (M : List Mk) (s : ByteArray) (adA : Option Addr) (capA : Nat) (adM : Option Addr) (capM : Nat) (w : World) (h : MksAt w adM M) (hn : M.length ≤ 9223372036854775807) :
    Calls Try.prog 48 #[.agg #[.slice adA A.length capA, .slice adM M.length capM], .string s] w fun e w' => e = .returned (.int .i64 (firstI (Led.ky M) s)) ∧ Gr w w' := by
  have H : Hid (MksAt w adM M) := h
  clear h
  go_enter Try.func48, Try.ntmps48
  go_wp2
  go_loopw [5] (fun ix wr => ∃ k : Nat, k ≤ M.length ∧ ix = .int .i64 k ∧ TwoAt wr w.heap.size (.slice adA A.length capA) (.slice adM M.length capM) ∧ Gr w wr ∧ ∀ j (h : j < (Led.ky M).length), j < k → (Led.ky M)[j] ≠ s)
      (fun ix _ => M.length - (intOf ix).toNat)
  case atStart => exact ⟨0, by omega, rfl, TwoAt.new w _ _ _ _ rfl, (Gr.refl _).alloc, fun j _ hj => absurd hj (by omega)⟩
  case round =>
    obtain ⟨k, hk, rfl, hbx, hg, hall⟩ := hrel
    have HB : Hid (TwoAt wr w.heap.size (.slice adA A.length capA) (.slice adM M.length capM)) := hbx
    have HG : Hid (Gr w wr) := hg
    have HL : Hid (∀ j (h : j < (Led.ky M).length), j < k → (Led.ky M)[j] ≠ s) := hall
    obtain ⟨b0, b1, _, _, bl⟩ := hbx
    clear hg hall
    by_cases hlt : k < M.length
    · obtain ⟨b, off, rfl, hb, c0, c1, c2, c3, c4⟩ := MksAt.at H.out k hlt
      have hki : (k : Int) < (M.length : Int) := by omega
      have e0 := HG.out.keep c0
      have hbw : b < wr.heap.size := Nat.lt_of_lt_of_le hb HG.out.size
      have hkn : k < (Led.ky M).length := by rw [Led.ky_len]; exact hlt
      have hnk : (Led.ky M)[k] = M[k].key := Led.ky_get M k hlt
      generalize M[k].key = x at e0 hnk
      clear c0 c1 c2 c3 c4 hb
      by_cases he : x = s
      · subst he
        have HR : Hid (firstI (Led.ky M) x = k) := first_yes hkn hnk HL.out
        clear hnk
        go_wp2
        go_ret
        exact ⟨by rw [HR.out]; rfl, HG.out⟩
      · have hne := neB he
        have HN : Hid (∀ j (h : j < (Led.ky M).length), j < k + 1 → (Led.ky M)[j] ≠ s) := fun j h1 h2 => by
          rcases Nat.lt_or_ge j k with h3 | h3
          · exact HL.out j h1 h3
          · have : j = k := by omega
            subst this; rw [hnk]; exact he
        clear hnk he
        go_wp2
        go_roundw
        case rel => exact ⟨k + 1, by omega, by go_num, HB.out, HG.out, HN.out⟩
        case measure => simp [intOf]; omega
    · have hki : ¬ (k : Int) < (M.length : Int) := by omega
      have HR : Hid (firstI (Led.ky M) s = -1) := first_no fun j hj => HL.out j hj (by rw [Led.ky_len] at hj; omega)
      go_wp2
      go_ret
      exact ⟨by rw [HR.out]; rfl, HG.out⟩
end Go.Proofs.Ytgidkmipecfjhaa
namespace Go.Proofs.Ytgidkmipecfjhaa
open Go.RowKit
open Led (Acc Mk)
theorem g_not {s : ByteArray} {m : Mk} (h : ¬ (m.t = s ∧ m.st = 1)) : Led.gFI s m = 0 ∧ Led.gFO s m = 0 ∧ Led.gKI s m = 0 ∧ Led.gKO s m = 0 := by
  have hh : ¬ Led.hit s m = true := by
    unfold Led.hit
    simpa only [Bool.and_eq_true, decide_eq_true_eq] using h
  unfold Led.gFI Led.gFO Led.gKI Led.gKO
  rw [if_neg hh, if_neg hh, if_neg hh, if_neg hh]
  exact ⟨rfl, rfl, rfl, rfl⟩
theorem g_hit {s : ByteArray} {m : Mk} (ha : Act.actB m.k m.t m.n = true) (h1 : m.t = s) (h2 : m.st = 1) :
    (m.k = 1 ∧ Led.gFI s m = 0 ∧ Led.gFO s m = m.n ∧ Led.gKI s m = 0 ∧ Led.gKO s m = 0) ∨ (m.k = 2 ∧ Led.gFI s m = m.n ∧ Led.gFO s m = 0 ∧ Led.gKI s m = 0 ∧ Led.gKO s m = 0) ∨
    (m.k = 3 ∧ Led.gFI s m = 0 ∧ Led.gFO s m = m.n ∧ Led.gKI s m = m.n ∧ Led.gKO s m = 0) ∨ (m.k = 4 ∧ Led.gFI s m = m.n ∧ Led.gFO s m = 0 ∧ Led.gKI s m = 0 ∧ Led.gKO s m = m.n) := by
  have hh : Led.hit s m = true := by
    unfold Led.hit
    simp only [Bool.and_eq_true, decide_eq_true_eq]
    exact ⟨h1, h2⟩
  obtain ⟨⟨k1, k2⟩, _, n1, n2⟩ := (Act.act_iff _ _ _).1 ha
  unfold Led.gFI Led.gFO Led.gKI Led.gKO
  rw [if_pos hh, if_pos hh, if_pos hh, if_pos hh]
  unfold Led.amF Led.amK Act.dF Act.dK
  rw [if_pos ha, if_pos ha]
  have hk : m.k = 1 ∨ m.k = 2 ∨ m.k = 3 ∨ m.k = 4 := by omega
  rcases hk with e | e | e | e <;> rw [e]
  · left; rw [show Act.wF 1 = -1 from rfl, show Act.wK 1 = 0 from rfl]; omega
  · right; left; rw [show Act.wF 2 = 1 from rfl, show Act.wK 2 = 0 from rfl]; omega
  · right; right; left; rw [show Act.wF 3 = -1 from rfl, show Act.wK 3 = 1 from rfl]; omega
  · right; right; right; rw [show Act.wF 4 = 1 from rfl, show Act.wK 4 = -1 from rfl]; omega
theorem g_rng {s : ByteArray} {M : List Mk} (ha : ∀ m ∈ M, Act.actB m.k m.t m.n = true) (hl : M.length ≤ 500) (k : Nat) :
    (0 ≤ Led.sm (Led.gFI s) (M.take k) ∧ Led.sm (Led.gFI s) (M.take k) ≤ 500000000000000000) ∧ (0 ≤ Led.sm (Led.gFO s) (M.take k) ∧ Led.sm (Led.gFO s) (M.take k) ≤ 500000000000000000) ∧ (0 ≤ Led.sm (Led.gKI s) (M.take k) ∧ Led.sm (Led.gKI s) (M.take k) ≤ 500000000000000000) ∧ (0 ≤ Led.sm (Led.gKO s) (M.take k) ∧ Led.sm (Led.gKO s) (M.take k) ≤ 500000000000000000) := by
  have hm : ∀ m ∈ M.take k, (0 ≤ Led.gFI s m ∧ Led.gFI s m ≤ 1000000000000000) ∧ (0 ≤ Led.gFO s m ∧ Led.gFO s m ≤ 1000000000000000) ∧ (0 ≤ Led.gKI s m ∧ Led.gKI s m ≤ 1000000000000000) ∧ (0 ≤ Led.gKO s m ∧ Led.gKO s m ≤ 1000000000000000) := by
    intro m h
    have h1 := ha m (List.mem_of_mem_take h)
    obtain ⟨_, _, n1, n2⟩ := (Act.act_iff _ _ _).1 h1
    by_cases hh : m.t = s ∧ m.st = 1
    · rcases g_hit h1 hh.1 hh.2 with ⟨_, a, b, c, d⟩ | ⟨_, a, b, c, d⟩ | ⟨_, a, b, c, d⟩ | ⟨_, a, b, c, d⟩ <;> rw [a, b, c, d] <;> omega
    · obtain ⟨a, b, c, d⟩ := g_not hh
      rw [a, b, c, d]; omega
  have ht : ((M.take k).length : Int) ≤ 500 := by rw [List.length_take]; omega
  have z1 := Led.sm_nonneg (fun m h => (hm m h).1.1)
  have z2 := Led.sm_nonneg (fun m h => (hm m h).2.1.1)
  have z3 := Led.sm_nonneg (fun m h => (hm m h).2.2.1.1)
  have z4 := Led.sm_nonneg (fun m h => (hm m h).2.2.2.1)
  have b1 := (Led.sm_bound (g := Led.gFI s) 1000000000000000 (fun m h => by have := hm m h; omega)).2
  have b2 := (Led.sm_bound (g := Led.gFO s) 1000000000000000 (fun m h => by have := hm m h; omega)).2
  have b3 := (Led.sm_bound (g := Led.gKI s) 1000000000000000 (fun m h => by have := hm m h; omega)).2
  have b4 := (Led.sm_bound (g := Led.gKO s) 1000000000000000 (fun m h => by have := hm m h; omega)).2
  omega
set_option maxHeartbeats 4000000 in
set_option maxRecDepth 100000 in
theorem refPots_any (A : List Acc) (M : List Mk) (x : Acc) (adA : Option Addr) (capA : Nat) (adM : Option Addr) (capM : Nat) (w : World) (h : MksAt w adM M) (ha : ∀ m ∈ M, Act.actB m.k m.t m.n = true) (hl : M.length ≤ 500) :
    Calls Try.prog 46 #[.agg #[.slice adA A.length capA, .slice adM M.length capM], .agg #[.string x.s, .int .i64 x.a, .int .i64 x.b, .int .i64 x.c, .int .i64 x.x, .int .i64 x.y, .int .i64 x.z]] w fun e w' => e = .returned (.bool (Led.potsB M x)) ∧ Gr w w' := by
  have H : Hid (MksAt w adM M) := h
  have HAC : Hid (∀ m ∈ M, Act.actB m.k m.t m.n = true) := ha
  have HRG : Hid (∀ k, (0 ≤ Led.sm (Led.gFI x.s) (M.take k) ∧ Led.sm (Led.gFI x.s) (M.take k) ≤ 500000000000000000) ∧ (0 ≤ Led.sm (Led.gFO x.s) (M.take k) ∧ Led.sm (Led.gFO x.s) (M.take k) ≤ 500000000000000000) ∧ (0 ≤ Led.sm (Led.gKI x.s) (M.take k) ∧ Led.sm (Led.gKI x.s) (M.take k) ≤ 500000000000000000) ∧ (0 ≤ Led.sm (Led.gKO x.s) (M.take k) ∧ Led.sm (Led.gKO x.s) (M.take k) ≤ 500000000000000000)) := fun k => g_rng ha hl k
  clear h ha
  go_enter Try.func46, Try.ntmps46
  go_wp2
  go_loopw [5, 6, 7, 8, 9] (fun s1 s2 s3 s4 ix wr => ∃ k : Nat, k ≤ M.length ∧ s1 = .int .i64 (Led.sm (Led.gFI x.s) (M.take k)) ∧ s2 = .int .i64 (Led.sm (Led.gFO x.s) (M.take k)) ∧ s3 = .int .i64 (Led.sm (Led.gKI x.s) (M.take k)) ∧ s4 = .int .i64 (Led.sm (Led.gKO x.s) (M.take k)) ∧ ix = .int .i64 k ∧ TwoAt wr w.heap.size (.slice adA A.length capA) (.slice adM M.length capM) ∧ AccAt wr (w.heap.size + 1) (.string x.s) (.int .i64 x.a) (.int .i64 x.b) (.int .i64 x.c) (.int .i64 x.x) (.int .i64 x.y) (.int .i64 x.z) ∧ Gr w wr)
      (fun _ _ _ _ ix _ => M.length - (intOf ix).toNat)
  case atStart => exact ⟨0, by omega, rfl, rfl, rfl, rfl, rfl, (TwoAt.new w _ _ _ _ rfl).gr (Gr.refl _).alloc, AccAt.new _ _ _ _ _ _ _ _ _ _ (by simp), (Gr.refl _).alloc.alloc⟩
  case round =>
    obtain ⟨k, hk, rfl, rfl, rfl, rfl, rfl, hbx, hax, hg⟩ := hrel
    have HB : Hid (TwoAt wr w.heap.size (.slice adA A.length capA) (.slice adM M.length capM)) := hbx
    have HX : Hid (AccAt wr (w.heap.size + 1) (.string x.s) (.int .i64 x.a) (.int .i64 x.b) (.int .i64 x.c) (.int .i64 x.x) (.int .i64 x.y) (.int .i64 x.z)) := hax
    have HG : Hid (Gr w wr) := hg
    obtain ⟨b0, b1, _, _, bl⟩ := hbx
    obtain ⟨x0, x1, x2, x3, x4, x5, x6⟩ := hax.cells
    have xl := hax.lt
    clear hg hax
    by_cases hlt : k < M.length
    · obtain ⟨b, off, rfl, hb, c0, c1, c2, c3, c4⟩ := MksAt.at H.out k hlt
      have hki : (k : Int) < (M.length : Int) := by omega
      have e0 := HG.out.keep c0
      have e1 := HG.out.keep c1
      have e2 := HG.out.keep c2
      have e3 := HG.out.keep c3
      have e4 := HG.out.keep c4
      have hbw : b < wr.heap.size := Nat.lt_of_lt_of_le hb HG.out.size
      have hac := HAC.out M[k] (List.getElem_mem hlt)
      have t1 := Led.sm_take (Led.gFI x.s) M k hlt
      have t2 := Led.sm_take (Led.gFO x.s) M k hlt
      have t3 := Led.sm_take (Led.gKI x.s) M k hlt
      have t4 := Led.sm_take (Led.gKO x.s) M k hlt
      have r := HRG.out k
      obtain ⟨⟨z1, y1⟩, ⟨z2, y2⟩, ⟨z3, y3⟩, ⟨z4, y4⟩⟩ := r
      have HRL : Hid (∀ s1 s2 s3 s4 : Int, s1 = Led.sm (Led.gFI x.s) (M.take (k + 1)) → s2 = Led.sm (Led.gFO x.s) (M.take (k + 1)) → s3 = Led.sm (Led.gKI x.s) (M.take (k + 1)) → s4 = Led.sm (Led.gKO x.s) (M.take (k + 1)) → ∀ W, Gr wr W → ∃ j : Nat, j ≤ M.length ∧ Value.int .i64 s1 = .int .i64 (Led.sm (Led.gFI x.s) (M.take j)) ∧ Value.int .i64 s2 = .int .i64 (Led.sm (Led.gFO x.s) (M.take j)) ∧ Value.int .i64 s3 = .int .i64 (Led.sm (Led.gKI x.s) (M.take j)) ∧ Value.int .i64 s4 = .int .i64 (Led.sm (Led.gKO x.s) (M.take j)) ∧ Value.int .i64 ((k : Int) + 1) = .int .i64 j ∧ TwoAt W w.heap.size (.slice adA A.length capA) (.slice (some ⟨b, off, none⟩) M.length capM) ∧ AccAt W (w.heap.size + 1) (.string x.s) (.int .i64 x.a) (.int .i64 x.b) (.int .i64 x.c) (.int .i64 x.x) (.int .i64 x.y) (.int .i64 x.z) ∧ Gr w W) := by
        intro s1 s2 s3 s4 q1 q2 q3 q4 W g
        subst q1 q2 q3 q4
        exact ⟨k + 1, by omega, rfl, rfl, rfl, rfl, by simp, HB.out.gr g, HX.out.gr g, HG.out.trans g⟩
      rw [t1, t2, t3, t4] at HRL
      generalize Led.sm (Led.gFI x.s) (M.take k) = u1 at *
      generalize Led.sm (Led.gFO x.s) (M.take k) = u2 at *
      generalize Led.sm (Led.gKI x.s) (M.take k) = u3 at *
      generalize Led.sm (Led.gKO x.s) (M.take k) = u4 at *
      clear t1 t2 t3 t4 c0 c1 c2 c3 c4 hb
      generalize M[k] = m at *
      obtain ⟨_, _, n1, n2⟩ := (Act.act_iff _ _ _).1 hac
      by_cases hts : m.t = x.s
      · by_cases hst : m.st = 1
        · have hq := g_hit hac hts hst
          have hqt : (m.t.toList == x.s.toList) = true := by rw [hts]; simp
          have p1 : u1 + m.n ≤ 9223372036854775807 := by omega
          have p2 : u2 + m.n ≤ 9223372036854775807 := by omega
          have p3 : u3 + m.n ≤ 9223372036854775807 := by omega
          have p4 : u4 + m.n ≤ 9223372036854775807 := by omega
          clear hts hac
          rcases hq with ⟨hkd, a, b, c, d⟩ | ⟨hkd, a, b, c, d⟩ | ⟨hkd, a, b, c, d⟩ | ⟨hkd, a, b, c, d⟩
          · rw [a, b, c, d] at HRL
            have hk1 : (m.k == 1) = true := by rw [hkd]; decide
            have hk2 : (m.k == 2) = false := by rw [hkd]; decide
            have hk3 : (m.k == 3) = false := by rw [hkd]; decide
            have hk4 : (m.k == 4) = false := by rw [hkd]; decide
            clear hkd a b c d
            go_wp2
            go_roundw
            case rel => exact HRL.out _ _ _ _ (by omega) (by omega) (by omega) (by omega) _ (by (with_reducible repeat' (first | exact Gr.refl _ | refine Gr.set ?_ _ ?_ _ | refine Gr.alloc ?_ | refine Gr.drew ?_ | refine Gr.trans ?_ (by assumption))) <;> (first | (simp; done) | (simp; omega) | omega))
            case measure => simp [intOf]; omega
          · rw [a, b, c, d] at HRL
            have hk1 : (m.k == 1) = false := by rw [hkd]; decide
            have hk2 : (m.k == 2) = true := by rw [hkd]; decide
            have hk3 : (m.k == 3) = false := by rw [hkd]; decide
            have hk4 : (m.k == 4) = false := by rw [hkd]; decide
            clear hkd a b c d
            go_wp2
            go_roundw
            case rel => exact HRL.out _ _ _ _ (by omega) (by omega) (by omega) (by omega) _ (by (with_reducible repeat' (first | exact Gr.refl _ | refine Gr.set ?_ _ ?_ _ | refine Gr.alloc ?_ | refine Gr.drew ?_ | refine Gr.trans ?_ (by assumption))) <;> (first | (simp; done) | (simp; omega) | omega))
            case measure => simp [intOf]; omega
          · rw [a, b, c, d] at HRL
            have hk1 : (m.k == 1) = false := by rw [hkd]; decide
            have hk2 : (m.k == 2) = false := by rw [hkd]; decide
            have hk3 : (m.k == 3) = true := by rw [hkd]; decide
            have hk4 : (m.k == 4) = false := by rw [hkd]; decide
            clear hkd a b c d
            go_wp2
            go_roundw
            case rel => exact HRL.out _ _ _ _ (by omega) (by omega) (by omega) (by omega) _ (by (with_reducible repeat' (first | exact Gr.refl _ | refine Gr.set ?_ _ ?_ _ | refine Gr.alloc ?_ | refine Gr.drew ?_ | refine Gr.trans ?_ (by assumption))) <;> (first | (simp; done) | (simp; omega) | omega))
            case measure => simp [intOf]; omega
          · rw [a, b, c, d] at HRL
            have hk1 : (m.k == 1) = false := by rw [hkd]; decide
            have hk2 : (m.k == 2) = false := by rw [hkd]; decide
            have hk3 : (m.k == 3) = false := by rw [hkd]; decide
            have hk4 : (m.k == 4) = true := by rw [hkd]; decide
            clear hkd a b c d
            go_wp2
            go_roundw
            case rel => exact HRL.out _ _ _ _ (by omega) (by omega) (by omega) (by omega) _ (by (with_reducible repeat' (first | exact Gr.refl _ | refine Gr.set ?_ _ ?_ _ | refine Gr.alloc ?_ | refine Gr.drew ?_ | refine Gr.trans ?_ (by assumption))) <;> (first | (simp; done) | (simp; omega) | omega))
            case measure => simp [intOf]; omega
        · have hq := g_not (s := x.s) (m := m) (fun h => hst h.2)
          obtain ⟨a, b, c, d⟩ := hq
          rw [a, b, c, d] at HRL
          have hqt : (m.t.toList == x.s.toList) = true := by rw [hts]; simp
          have hqs : (m.st == 1) = false := by simpa using hst
          clear hts hst hac a b c d
          go_wp2
          go_roundw
          case rel => exact HRL.out _ _ _ _ (by omega) (by omega) (by omega) (by omega) _ (by (with_reducible repeat' (first | exact Gr.refl _ | refine Gr.set ?_ _ ?_ _ | refine Gr.alloc ?_ | refine Gr.drew ?_ | refine Gr.trans ?_ (by assumption))) <;> (first | (simp; done) | (simp; omega) | omega))
          case measure => simp [intOf]; omega
      · have hq := g_not (s := x.s) (m := m) (fun h => hts h.1)
        obtain ⟨a, b, c, d⟩ := hq
        rw [a, b, c, d] at HRL
        have hqt := neB hts
        clear hts hac a b c d
        go_wp2
        go_roundw
        case rel => exact HRL.out _ _ _ _ (by omega) (by omega) (by omega) (by omega) _ (by (with_reducible repeat' (first | exact Gr.refl _ | refine Gr.set ?_ _ ?_ _ | refine Gr.alloc ?_ | refine Gr.drew ?_ | refine Gr.trans ?_ (by assumption))) <;> (first | (simp; done) | (simp; omega) | omega))
        case measure => simp [intOf]; omega
    · have hki : ¬ (k : Int) < (M.length : Int) := by omega
      have hke : k = M.length := by omega
      have HP : Hid (Led.potsB M x = (decide (x.b = Led.sm (Led.gFI x.s) (M.take k)) && decide (x.c = Led.sm (Led.gFO x.s) (M.take k)) && decide (x.y = Led.sm (Led.gKI x.s) (M.take k)) && decide (x.z = Led.sm (Led.gKO x.s) (M.take k)))) := by
        show _ = _
        rw [hke, List.take_length]; rfl
      clear hke
      generalize Led.sm (Led.gFI x.s) (M.take k) = u1 at *
      generalize Led.sm (Led.gFO x.s) (M.take k) = u2 at *
      generalize Led.sm (Led.gKI x.s) (M.take k) = u3 at *
      generalize Led.sm (Led.gKO x.s) (M.take k) = u4 at *
      by_cases q1 : x.b = u1
      case neg =>
        have hq1 : (x.b == u1) = false := by simpa using q1
        have HV : Hid (Led.potsB M x = false) := by show _ = _; rw [HP.out, decide_eq_false q1]; simp
        clear q1
        go_wp2
        go_ret
        exact ⟨by rw [HV.out]; rfl, HG.out⟩
      rw [decide_eq_true q1] at HP
      have hq1 : (x.b == u1) = true := by simpa using q1
      clear q1
      by_cases q2 : x.c = u2
      case neg =>
        have hq2 : (x.c == u2) = false := by simpa using q2
        have HV : Hid (Led.potsB M x = false) := by show _ = _; rw [HP.out, decide_eq_false q2]; simp
        clear q2
        go_wp2
        go_ret
        exact ⟨by rw [HV.out]; rfl, HG.out⟩
      rw [decide_eq_true q2] at HP
      have hq2 : (x.c == u2) = true := by simpa using q2
      clear q2
      by_cases q3 : x.y = u3
      case neg =>
        have hq3 : (x.y == u3) = false := by simpa using q3
        have HV : Hid (Led.potsB M x = false) := by show _ = _; rw [HP.out, decide_eq_false q3]; simp
        clear q3
        go_wp2
        go_ret
        exact ⟨by rw [HV.out]; rfl, HG.out⟩
      rw [decide_eq_true q3] at HP
      have hq3 : (x.y == u3) = true := by simpa using q3
      clear q3
      by_cases q4 : x.z = u4
      case neg =>
        have hq4 : (x.z == u4) = false := by simpa using q4
        have HV : Hid (Led.potsB M x = false) := by show _ = _; rw [HP.out, decide_eq_false q4]; simp
        clear q4
        go_wp2
        go_ret
        exact ⟨by rw [HV.out]; rfl, HG.out⟩
      rw [decide_eq_true q4] at HP
      have hq4 : (x.z == u4) = true := by simpa using q4
      clear q4
      have HV : Hid (Led.potsB M x = true) := by show _ = _; rw [HP.out]; rfl
      go_wp2
      go_ret
      exact ⟨by rw [HV.out]; rfl, HG.out⟩
end Go.Proofs.Ytgidkmipecfjhaa
