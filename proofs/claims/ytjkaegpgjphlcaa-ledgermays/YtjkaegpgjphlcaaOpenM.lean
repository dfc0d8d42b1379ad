/- A ledger that came in, opened; small. -/
import Derived.Test.YtjkaegpgjphlcaaOpenL
import Derived.ChangeSame
namespace Go.Proofs.Ytjkaegpgjphlcaa
open Go.ChangeShapes Go.WideShapes Go.ChangeAt Go.RowKit
open Led (Acc Mk)

theorem row_of {α : Type} {f : α → List Value} {c : Nat} (hc : ∀ x, (f x).length = c) (h0 : 0 < c) {w : World} {b off : Nat} {L : List α}
    (each : ∀ q (h : q < L.length) r u, (f L[q])[r]? = some u → w.cell? ⟨b, off + (q * c + r), none⟩ = some u) : RowAt f w (some ⟨b, off, none⟩) L := by
  intro j u hu
  have hj : j < (L.flatMap f).length := by
    rcases Nat.lt_or_ge j (L.flatMap f).length with h | h
    · exact h
    · rw [List.getElem?_eq_none h] at hu; cases hu
  rw [flat_len hc] at hj
  have hr : j % c < c := Nat.mod_lt _ h0
  have hq : j / c < L.length := Nat.div_lt_of_lt_mul (by rw [Nat.mul_comm]; exact hj)
  have e : j = j / c * c + j % c := by rw [Nat.mul_comm]; exact (Nat.div_add_mod j c).symm
  rw [e, flat_get hc L (j / c) hq (j % c) hr] at hu
  have h := each (j / c) hq (j % c) u hu
  rw [← e] at h
  exact ⟨b, off, rfl, World.block_lt_of_cell? w _ h, h⟩

theorem open_rows {α : Type} [Inhabited α] {f : α → List Value} {c : Nat} (hc : ∀ x, (f x).length = c) (h0 : 0 < c) {In : α → Prop} {t e : TypeId} (ht : Try.prog.underlying t = some (.slice e)) (ce : Try.prog.cellsOf e = c)
    {H : Type} {enc : TypeId × Value → H} {W : World} {base : Nat} {sp : Nat → Bool} {held : Bool} {fuel : Nat} {a0 : Option Addr} {len0 cap0 : Nat} {x : DataW H × List MemPlace}
    (elem : ∀ (n : Nat) (cs : List Value) (y : DataW H × List MemPlace), cs.length = c → DataW.trod enc Try.prog W base sp held n e cs = some y → ∃ z : α, cs = f z ∧ In z)
    (hf : DataW.trod enc Try.prog W base sp held fuel t [.slice a0 len0 cap0] = some x) :
    ∃ L : List α, len0 = L.length ∧ RowAt f W a0 L ∧ L.length ≤ 9223372036854775807 ∧ ∀ y ∈ L, In y := by
  rcases Deep.open_slice ht hf with ⟨hcs, _⟩ | ⟨a, len, cap, m, n, D, Pl, hcs, _, hl, hm, hmm, _, hx⟩
  · simp at hcs
    obtain ⟨rfl, rfl, rfl⟩ := hcs
    exact ⟨[], rfl, RowAt.nil, by simp, by simp⟩
  · simp at hcs
    obtain ⟨rfl, rfl, rfl⟩ := hcs
    have hlm : len0 ≤ m := by rw [hmm]; split <;> omega
    have each : ∀ i, i < len0 → ∃ z : α, (∀ r u, (f z)[r]? = some u → W.cell? (a.add (i * c + r)) = some u) ∧ In z := by
      intro i hi
      obtain ⟨cs, h1, h2⟩ := hx i (by omega)
      rw [ce] at h1
      obtain ⟨_, hlen, hcell⟩ := World.cells?_some h1
      obtain ⟨z, rfl, hz⟩ := elem n cs _ hlen h2
      refine ⟨z, fun r u hu => ?_, hz⟩
      have hr : r < c := by
        rcases Nat.lt_or_ge r (f z).length with h | h
        · rw [hc] at h; exact h
        · rw [List.getElem?_eq_none h] at hu; cases hu
      have c0 := hcell r hr
      rw [Deep.add_add] at c0
      rw [c0, ← hu]
    obtain ⟨g, hg⟩ := Deep.choose_lt each
    unfold maxLen at hm
    refine ⟨(List.range len0).map g, by simp, ?_, by simp; omega, ?_⟩
    · cases len0 with
      | zero => simp; exact RowAt.nil
      | succ l =>
        obtain ⟨b, off, spot⟩ := a
        have h00 : 0 < (f (g 0)).length := by rw [hc]; exact h0
        have hspot : spot = none := by
          have := World.cell?_spot ((hg 0 (by omega)).1 0 _ (List.getElem?_eq_getElem h00))
          simpa [Addr.add] using this
        subst hspot
        refine row_of hc h0 fun q hq r u hu => ?_
        have hq' : q < l + 1 := by simpa using hq
        have := (hg q hq').1 r u (by simpa using hu)
        rwa [Addr.add_lit] at this
    · intro y hy
      obtain ⟨j, hj, rfl⟩ := List.mem_map.1 hy
      exact (hg j (by simpa using hj)).2

theorem trod_pot {H : Type} {enc : TypeId × Value → H} {W : World} {base : Nat} {sp : Nat → Bool} {held : Bool} {fuel : Nat} {u v q : Value} {x : DataW H × List MemPlace}
    (h : DataW.trod enc Try.prog W base sp held fuel 29 [u, v, q] = some x) : ∃ a b c, u = .int .i64 a ∧ v = .int .i64 b ∧ q = .int .i64 c ∧ inI a ∧ inI b ∧ inI c := by
  obtain ⟨y0, y1, y2, n, _, _, t0, t1, t2⟩ := Deep.trod_struct3 Try.underlying29 h
  have k0 : Try.prog.cellsOf 2 = 1 := by kernel_rfl
  simp [k0] at t0 t1 t2
  obtain ⟨z0, e0, _, r0⟩ := DataW.trod_int Try.underlying2 t0
  obtain ⟨z1, e1, _, r1⟩ := DataW.trod_int Try.underlying2 t1
  obtain ⟨z2, e2, _, r2⟩ := DataW.trod_int Try.underlying2 t2
  simp at e0 e1 e2
  subst e0 e1 e2
  exact ⟨z0, z1, z2, rfl, rfl, rfl, rng_i64 r0, rng_i64 r1, rng_i64 r2⟩
set_option maxRecDepth 100000 in
theorem trod_acc {H : Type} {enc : TypeId × Value → H} {W : World} {base : Nat} {sp : Nat → Bool} {held : Bool} (n : Nat) (cs : List Value) (y : DataW H × List MemPlace) (hl : cs.length = 7)
    (h : DataW.trod enc Try.prog W base sp held n 31 cs = some y) : ∃ z : Acc, cs = accC z ∧ inA z := by
  match cs, hl with
  | [v0, v1, v2, v3, v4, v5, v6], _ =>
    obtain ⟨y0, y1, y2, n, _, _, t0, t1, t2⟩ := Deep.trod_struct3 Try.underlying31 h
    have k1 : Try.prog.cellsOf 9 = 1 := by kernel_rfl
    have k3 : Try.prog.cellsOf 29 = 3 := by kernel_rfl
    simp [k1, k3] at t0 t1 t2
    obtain ⟨s, e0, _, r0⟩ := DataW.trod_string Try.underlying9 t0
    simp at e0
    subst e0
    obtain ⟨a, b, c, rfl, rfl, rfl, h1⟩ := trod_pot t1
    obtain ⟨x, y, z, rfl, rfl, rfl, h2, h3, h4⟩ := trod_pot t2
    unfold maxLen at r0
    exact ⟨⟨s, a, b, c, x, y, z⟩, rfl, (by show s.size ≤ _; omega), h1, h2, h3, h4⟩
set_option maxRecDepth 100000 in
theorem trod_mk {H : Type} {enc : TypeId × Value → H} {W : World} {base : Nat} {sp : Nat → Bool} {held : Bool} (n : Nat) (cs : List Value) (y : DataW H × List MemPlace) (hl : cs.length = 5)
    (h : DataW.trod enc Try.prog W base sp held n 64 cs = some y) : ∃ z : Mk, cs = mkC z ∧ inM z := by
  match cs, hl with
  | [v0, v1, v2, v3, v4], _ =>
    obtain ⟨y0, y1, y2, n, _, _, t0, t1, t2⟩ := Deep.trod_struct3 Try.underlying64 h
    have k1 : Try.prog.cellsOf 9 = 1 := by kernel_rfl
    have k0 : Try.prog.cellsOf 3 = 1 := by kernel_rfl
    have k3 : Try.prog.cellsOf 44 = 3 := by kernel_rfl
    simp [k0, k1, k3] at t0 t1 t2
    obtain ⟨s, e0, _, r0⟩ := DataW.trod_string Try.underlying9 t0
    obtain ⟨st, e2, _, r2⟩ := DataW.trod_int Try.underlying3 t2
    simp at e0 e2
    subst e0 e2
    obtain ⟨k, t, m, rfl, rfl, rfl, h1, h2, h3⟩ := trod_act t1
    unfold maxLen at r0
    exact ⟨⟨s, k, t, m, st⟩, rfl, (by show s.size ≤ _; omega), h1, h2, h3, rng_i64 r2⟩

set_option maxRecDepth 100000 in
theorem open_led {H : Type} {enc : TypeId × Value → H} {W : World} {base : Nat} {v : Value} {d : DataW H} {ps : List MemPlace}
    (hok : Value.okWide Try.prog W .any base 25 v) (h : DataW.Trod enc Try.prog W 0 (fun _ => true) true 25 v d ps) :
    ∃ adA capA adM capM, ∃ (A : List Acc) (M : List Mk), v = .agg #[.slice adA A.length capA, .slice adM M.length capM] ∧ LedAt W adA adM A M := by
  obtain ⟨cs, rfl, hsz⟩ := okWide_struct Try.underlying25 hok
  have hsz2 : cs.size = 2 := hsz.trans (by kernel_rfl)
  obtain ⟨l⟩ := cs
  match l, hsz2 with
  | [v0, v1], _ =>
    obtain ⟨fuel, hf⟩ := h
    simp only [Value.cells] at hf
    obtain ⟨y0, y1, n, _, _, t0, t1⟩ := trod_struct2 Try.underlying25 hf
    have k0 : Try.prog.cellsOf 22 = 1 := by kernel_rfl
    have k1 : Try.prog.cellsOf 23 = 1 := by kernel_rfl
    simp [k0, k1] at t0 t1
    have s0 : ∃ a l c, v0 = .slice a l c := by
      rcases Deep.open_slice Try.underlying22 t0 with ⟨hcs, _⟩ | ⟨a, len, cap, _, _, _, _, hcs, _⟩
      · simp at hcs; exact ⟨_, _, _, hcs⟩
      · simp at hcs; exact ⟨_, _, _, hcs⟩
    have s1 : ∃ a l c, v1 = .slice a l c := by
      rcases Deep.open_slice Try.underlying23 t1 with ⟨hcs, _⟩ | ⟨a, len, cap, _, _, _, _, hcs, _⟩
      · simp at hcs; exact ⟨_, _, _, hcs⟩
      · simp at hcs; exact ⟨_, _, _, hcs⟩
    obtain ⟨a, la, ca, rfl⟩ := s0
    obtain ⟨b, lb, cb, rfl⟩ := s1
    have hiA : Inhabited Acc := ⟨accZ⟩
    have hiM : Inhabited Mk := ⟨mkZ⟩
    obtain ⟨A, rfl, h1, h2, h3⟩ := open_rows accC_len (by decide) Try.underlying22 (by kernel_rfl) trod_acc t0
    obtain ⟨M, rfl, h4, h5, h6⟩ := open_rows mkC_len (by decide) Try.underlying23 (by kernel_rfl) trod_mk t1
    exact ⟨a, ca, b, cb, A, M, rfl, h1, h4, h3, h6, h2, h5⟩

/- an answer that is yes or no -/
def IsB (e : Ending) : Prop := ∃ b : Bool, e = .returned (.bool b)
set_option maxHeartbeats 2000000 in
set_option maxRecDepth 100000 in
theorem small_some (A : List Acc) (M : List Mk) (adA : Option Addr) (capA : Nat) (adM : Option Addr) (capM : Nat) (w : World) (h : MksAt w adM M) (_hnA : A.length ≤ 9223372036854775807) (hnM : M.length ≤ 9223372036854775807) :
    Calls Try.prog 8 #[.agg #[.slice adA A.length capA, .slice adM M.length capM]] w fun e w' => IsB e ∧ Gr w w' := by
  have H : Hid (MksAt w adM M) := h
  clear h
  have early : ∀ b1 b2 b3 b4 : Bool, decide ((100 : Int) < (A.length : Int)) = b1 → decide ((150 : Int) < (M.length : Int)) = b2 → decide ((M.length : Int) ≤ 500) = b3 → decide ((1000 : Int) < (M.length : Int)) = b4 →
      Calls Try.prog 8 #[.agg #[.slice adA A.length capA, .slice adM M.length capM]] w fun e w' => IsB e ∧ Gr w w' := by
    intro b1 b2 b3 b4 h1 h2 h3 h4
    have loop : b1 = false → (b2 && b3) = false → b4 = false → Calls Try.prog 8 #[.agg #[.slice adA A.length capA, .slice adM M.length capM]] w fun e w' => IsB e ∧ Gr w w' := by
      intro e1 e2 e4
      subst e1 e4
      cases b2 <;> cases b3 <;> first | cases e2 | skip
      all_goals
        go_enter Try.func8, Try.ntmps8
        go_wp2
        clear h1 h2 h3 h4
        go_loopw [3] (fun ix wr => ∃ k : Nat, k ≤ M.length ∧ ix = .int .i64 k ∧ TwoAt wr w.heap.size (.slice adA A.length capA) (.slice adM M.length capM) ∧ Gr w wr) (fun ix _ => M.length - (intOf ix).toNat)
        case atStart => exact ⟨0, by omega, rfl, TwoAt.new w _ _ _ _ rfl, (Gr.refl _).alloc⟩
        case round =>
          obtain ⟨k, hk, rfl, hbx, hg⟩ := hrel
          have HB : Hid (TwoAt wr w.heap.size (.slice adA A.length capA) (.slice adM M.length capM)) := hbx
          have HG : Hid (Gr w wr) := hg
          obtain ⟨b0, b1, _, _, bl⟩ := hbx
          clear hg
          by_cases hlt : k < M.length
          · obtain ⟨b, off, rfl, hb, c0, c1, c2, c3, c4⟩ := MksAt.at H.out k hlt
            have hki : (k : Int) < (M.length : Int) := by omega
            have e0 := HG.out.keep c0
            have hbw : b < wr.heap.size := Nat.lt_of_lt_of_le hb HG.out.size
            generalize M[k].key = x at e0
            clear c0 c1 c2 c3 c4 hb
            by_cases hs : (1000 : Int) < (x.size : Int)
            · go_wp2
              go_ret
              exact ⟨⟨_, rfl⟩, HG.out⟩
            · go_wp2
              go_roundw
              case rel => exact ⟨k + 1, by omega, by go_num, HB.out, HG.out⟩
              case measure => simp [intOf]; omega
          · have hki : ¬ (k : Int) < (M.length : Int) := by omega
            go_wp2
            go_ret
            exact ⟨⟨_, rfl⟩, HG.out⟩
    cases b1 with
    | true =>
      go_enter Try.func8, Try.ntmps8
      go_wp2
      go_ret
      exact ⟨⟨_, rfl⟩, (by repeat (first | exact Gr.refl _ | refine Gr.alloc ?_ | refine Gr.drew ?_ | refine Gr.trans ?_ (by assumption)))⟩
    | false =>
      cases b4 with
      | true =>
        cases b2 <;> cases b3
        all_goals
          go_enter Try.func8, Try.ntmps8
          go_wp2
          go_ret
          exact ⟨⟨_, rfl⟩, (by repeat (first | exact Gr.refl _ | refine Gr.alloc ?_ | refine Gr.drew ?_ | refine Gr.trans ?_ (by assumption)))⟩
      | false =>
        cases b2 with
        | false => exact loop rfl rfl rfl
        | true =>
          cases b3 with
          | false => exact loop rfl rfl rfl
          | true =>
            go_enter Try.func8, Try.ntmps8
            go_wp2
            go_ret
            exact ⟨⟨_, rfl⟩, (by repeat (first | exact Gr.refl _ | refine Gr.alloc ?_ | refine Gr.drew ?_ | refine Gr.trans ?_ (by assumption)))⟩
  exact early _ _ _ _ rfl rfl rfl rfl
end Go.Proofs.Ytjkaegpgjphlcaa
