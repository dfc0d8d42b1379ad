/- Parts of these proofs, laid together. -/
import Derived.Test.YthfbpilfdfploaaGF
import Derived.Test.YthfbpilfdfploaaGG
import Derived.Test.YthfbpilfdfploaaGD
import Derived.WalkMore
import Derived.Test.YthfbpilfdfploaaGB
namespace Go.Proofs.Ythfbpilfdfploaa
open Go.RowKit

variable {Z : Nat → Prop}
theorem flat_set {α : Type} {f : α → List Value} {c : Nat} (hc : ∀ x, (f x).length = c) (L : List α) : ∀ (j : Nat) (h : j < L.length) (i : Nat) (_ : i < c) (y : α) (u : Value) (_ : f y = (f L[j]).set i u), (L.flatMap f).set (j * c + i) u = (L.set j y).flatMap f := by
  induction L with
  | nil => intro j h; simp at h
  | cons x t ih =>
    intro j h i hi y u e
    cases j with
    | zero =>
      rw [Nat.zero_mul, Nat.zero_add, List.flatMap_cons, List.set_append_left _ _ (by rw [hc]; exact hi), List.set_cons_zero, List.flatMap_cons, e]; rfl
    | succ j =>
      rw [List.flatMap_cons, Nat.add_mul, Nat.one_mul, List.set_append_right _ _ (by rw [hc]; omega), hc, show j * c + c + i - c = j * c + i by omega, List.set_cons_succ, List.flatMap_cons, ih j (by simpa using h) i hi y u e]
theorem own_form3 {w : World} {base : Nat} {e : TypeId} {size n : Nat} {v : Value} {xs : List Value} (h : w.ownsRow base e size v n xs) (hn : 0 < n) : ∃ g cap, v = .slice (some ⟨g, 0, none⟩) n cap ∧ base ≤ g ∧ g < w.heap.size ∧ n ≤ cap := by
  have hlt := h.lt
  obtain ⟨_, ⟨rfl, h0⟩ | ⟨g, cap, cur, rfl, hx⟩⟩ := h
  · omega
  · exact ⟨g, cap, rfl, (hlt g rfl).1, (hlt g rfl).2, hx.2.2.1⟩
theorem own_cell3 {w : World} {base : Nat} {e : TypeId} {size n cap g : Nat} {xs : List Value} (h : w.ownsRow base e size (.slice (some ⟨g, 0, none⟩) n cap) n xs) {j : Nat} {u : Value} (hu : xs[j]? = some u) : w.cell? ⟨g, j, none⟩ = some u ∧ w.frozen? ⟨g, j, none⟩ = false := by
  have h1 := h.cells (g := g) rfl j u hu
  rw [Addr.add_lit, Nat.zero_add] at h1
  refine ⟨h1, ?_⟩
  obtain ⟨_, ⟨e, _⟩ | ⟨g', cap', cur, e, _, hh, _⟩⟩ := h
  · cases e
  · cases e; simp [World.frozen?, hh]
theorem grown_set3 (w : World) (p : Addr) (u : Value) : w.grownBy (w.setCell p u) (some p.block) :=
  ⟨rfl, rfl, rfl, by simp [World.setCell], fun k _ hk => Below.heap_setCell _ _ _ _ (fun e => hk (by rw [e]))⟩
/- one cell of an owned row is written -/
theorem Bxs.put {w : World} {base g c : Nat} {D : List Mi} (h : Bxs Z w base (.slice (some ⟨g, 0, none⟩) D.length c) D) (k : Nat) (hk : k < D.length) (x : Mi) (hm : x.m = D[k].m) (i : Nat) (hi : i < 9) (u : Value) (hu : iC x = (iC D[k]).set i u) :
    Bxs Z (w.setCell ⟨g, k * 9 + i, none⟩ u) base (.slice (some ⟨g, 0, none⟩) D.length c) (D.set k x) := by
  have hmem : ∀ y ∈ D.set k x, ∃ z ∈ D, z.m = y.m := by
    intro y hy
    rcases List.mem_or_eq_of_mem_set hy with hy | rfl
    · exact ⟨y, hy, rfl⟩
    · exact ⟨D[k], List.getElem_mem hk, hm.symm⟩
  refine ⟨?_, fun y hy => ?_, fun y hy => ?_⟩
  · have := (h.own.stored (k * 9 + i) u).1
    rw [flat_set iC_len D k hk i hi x u hu] at this
    rw [List.length_set]; exact this
  · obtain ⟨z, hz, e⟩ := hmem y hy
    have h1 := h.nt z hz
    have h2 := h.ap z hz
    rw [e] at h1 h2
    exact ⟨hops_kept h1.hp (grown_set3 w ⟨g, k * 9 + i, none⟩ u) h2, h1.hl, h1.hc, h1.hd, h1.hz⟩
  · obtain ⟨z, hz, e⟩ := hmem y hy
    have h2 := h.ap z hz
    rw [e] at h2
    exact h2
/- an item behind Due -/
def tkM (z : Int) (x : Mi) : Mi := if x.d ≤ z then ⟨x.q, z + Ox.del (Ox.more x.s), Ox.more x.s, x.m⟩ else x
theorem tkM_it (z : Int) (x : Mi) : (tkM z x).it = Ox.tick z x.it := by
  unfold tkM Ox.tick
  show (if x.d ≤ z then _ else _ : Mi).it = if x.d ≤ z then _ else _
  split <;> rfl
theorem its_tk (z : Int) (D : List Mi) : its (D.map (tkM z)) = (its D).map (Ox.tick z) := by
  unfold its
  rw [List.map_map, List.map_map]
  exact List.map_congr_left fun x _ => tkM_it z x
def part (z : Int) (D : List Mi) (k : Nat) : List Mi := (D.take k).map (tkM z) ++ D.drop k
theorem part_len (z : Int) (D : List Mi) (k : Nat) : (part z D k).length = D.length := by simp [part]; omega
theorem part_zero (z : Int) (D : List Mi) : part z D 0 = D := by simp [part]
theorem part_all (z : Int) (D : List Mi) (k : Nat) (h : D.length ≤ k) : part z D k = D.map (tkM z) := by
  unfold part
  rw [List.take_of_length_le h, List.drop_eq_nil_of_le h, List.append_nil]
theorem part_get (z : Int) (D : List Mi) (k : Nat) (h : k < D.length) : (part z D k)[k]'(by rw [part_len]; exact h) = D[k] := by
  unfold part
  rw [List.getElem_append_right (by simp; omega)]
  simp [Nat.min_eq_left (Nat.le_of_lt h)]
theorem part_succ (z : Int) (D : List Mi) (k : Nat) (h : k < D.length) : (part z D k).set k (tkM z D[k]) = part z D (k + 1) := by
  unfold part
  have hl : ((D.take k).map (tkM z)).length = k := by simp; omega
  rw [List.set_append_right _ _ (by omega), hl, Nat.sub_self, List.drop_eq_getElem_cons h, List.set_cons_zero, List.take_succ_eq_append_getElem h, List.map_append, List.append_assoc]
  rfl
theorem part_same (z : Int) (D : List Mi) (k : Nat) (h : k < D.length) (e : tkM z D[k] = D[k]) : part z D (k + 1) = part z D k := by
  rw [← part_succ z D k h, e]
  conv => lhs; rw [← part_get z D k h]
  exact List.set_getElem_self _
theorem del_del (n : Int) : Bo.delE n = Ox.del n := rfl

set_option maxHeartbeats 8000000 in
set_option maxRecDepth 100000 in
theorem sent_any (D : List Mi) (z : Int) (ad : Option Addr) (cap g : Nat) (w : World) (hZ : Frs Z w) (hD : ItsAt Z w ad D) (hn : D.length ≤ 1000) (hs : ∀ x ∈ D, x.m.x.L.length ≤ 1000 ∧ x.m.x.d.size ≤ 1000) (hsn : ∀ x ∈ its D, 0 ≤ x.s ∧ x.s ≤ 1000000) (hz : 0 ≤ z ∧ z ≤ 1000000000) (hb : w.cell? ⟨g, 0, none⟩ = some (.int .i64 z)) :
    Calls Try.prog 70 #[.slice ad D.length cap, .func (.func 69) #[] #[.pointer (some ⟨g, 0, none⟩)], .int .i64 z] w fun e w' => BxR Z ((its D).map (Ox.tick z)) w e w' := by
  have HP : Hid (∀ w', Gr w w' → Calls Try.prog 49 #[.slice ad D.length cap] w' fun e w2 => BxR Z (its D) w' e w2) := fun w' gr => copied_any D ad cap w' (hZ.gr gr) (hD.gr gr) hn hs
  have HC : Hid (∀ x w', Gr w w' → Calls Try.prog 69 #[Mi.v x, .pointer (some ⟨g, 0, none⟩)] w' fun e w2 => e = .returned (.bool (decide (x.d ≤ z))) ∧ Gr w' w2) := fun x w' gr => closeDue_any x z g w' (gr.keep hb)
  have HNx : Hid (∀ s w', Calls Try.prog 89 #[.int .i64 z, .int .i64 s] w' fun e w2 => e = .returned (.tuple #[.int .i64 (z + Ox.del s), .int .i64 0]) ∧ w2 = w') := fun s w' => by
    have := next_any z s w'
    have e1 : Bo.nextB z = true := by simp [Bo.nextB]; omega
    rw [show Bo.nextE z s = z + Ox.del s by unfold Bo.nextE; rw [if_pos e1]; rfl, show Bo.nextF z = 0 by unfold Bo.nextF; rw [if_pos e1]] at this
    exact this
  have HSn : Hid (∀ x ∈ its D, 0 ≤ x.s ∧ x.s ≤ 1000000) := hsn
  clear hD hs hsn hb
  go_enter Try.func70, Try.ntmps70
  go_wp2_with fail
  refine (HP.out _ ?_).mono ?_
  · exact (by repeat(first|exact Gr.r _|refine Gr.a ?_|refine Gr.d ?_|refine Gr.t ?_ (by assumption)))
  rintro e1 w1 ⟨a, c, E, rfl, hbx, hel, hg1⟩
  have HEl := Lib.hid hel
  have hEb : E.length ≤ 1000 := by have := congrArg List.length hel; simp [its] at this; omega
  have HB0 := Lib.hid (hbx.low (base' := w.heap.size) (by have := hg1.size; omega))
  have HG1 : Hid (Gr w w1) := (by repeat(first|exact Gr.r _|refine Gr.a ?_|refine Gr.d ?_|refine Gr.t ?_ (by assumption)))
  have HSe : Hid (∀ x ∈ E, 0 ≤ x.s ∧ x.s ≤ 1000000) := fun x hx => HSn.out x.it (by rw [← HEl.out]; exact List.mem_map.2 ⟨x, hx, rfl⟩)
  clear hbx hel hg1 HP HSn
  go_wp2
  go_loopw [14] (fun s14 wr => ∃ k : Nat, s14 = .int .i64 k ∧ k ≤ E.length ∧ Bxs Z wr w.heap.size (.slice a E.length c) (part z E k) ∧ Gr w wr) (fun s14 _ => E.length - (intOf s14).toNat)
  case atStart => exact ⟨0, rfl, Nat.zero_le _, by rw [part_zero]; exact HB0.out, HG1.out⟩
  case round =>
    clear HB0 HG1
    obtain ⟨k, rfl, hk, hbx, hg⟩ := hrel
    have HG := Lib.hid hg
    by_cases hlt : k < E.length
    · have hpl := part_len z E k
      have hbo := hbx.own
      rw [hpl] at hbo
      obtain ⟨gb, cap1, hv, hbg, hgl, _⟩ := own_form3 hbo (by omega)
      cases hv
      have HB := Lib.hid hbx
      have hcell : ∀ i u, i < 9 → (iC E[k])[i]? = some u → wr.cell? ⟨gb, k * 9 + i, none⟩ = some u ∧ wr.frozen? ⟨gb, k * 9 + i, none⟩ = false := by
        intro i u hi hu
        refine own_cell3 hbo ?_
        rw [flat_get iC_len (part z E k) k (by rw [hpl]; exact hlt) i hi, part_get z E k hlt]
        exact hu
      have HPut : Hid (∀ (wx : World) (x1 x2 : Mi), x1.m = x2.m → ∀ i u, i < 9 → iC x2 = (iC x1).set i u → Bxs Z wx w.heap.size (.slice (some ⟨gb, 0, none⟩) E.length c) ((part z E k).set k x1) → Bxs Z (wx.setCell ⟨gb, k * 9 + i, none⟩ u) w.heap.size (.slice (some ⟨gb, 0, none⟩) E.length c) ((part z E k).set k x2)) := by
        intro wx x1 x2 hm i u hi hu hbx
        have hlen : ((part z E k).set k x1).length = E.length := by simp [part_len]
        have := Bxs.put (D := (part z E k).set k x1) (g := gb) (c := c) (by rw [hlen]; exact hbx) k (by rw [hlen]; exact hlt) x2 (by simp [hm]) i hi u (by simpa using hu)
        rw [hlen, List.set_set] at this
        exact this
      have HB1 : Hid (Bxs Z wr w.heap.size (.slice (some ⟨gb, 0, none⟩) E.length c) ((part z E k).set k E[k])) := by
        have e : (part z E k).set k E[k] = part z E k := by
          conv => lhs; rw [← part_get z E k hlt]
          exact List.set_getElem_self _
        rw [e]; exact HB.out
      have HSu := Lib.hid (part_succ z E k hlt)
      have HSa : Hid (tkM z E[k] = E[k] → part z E (k + 1) = part z E k) := part_same z E k hlt
      have hki : (k : Int) < (E.length : Int) := by omega
      obtain ⟨r0, r1⟩ := HSe.out E[k] (List.getElem_mem hlt)
      have HX := Lib.hid (HC.out E[k])
      clear hg hbx hbo hpl HC
      generalize E[k] = x at *
      obtain ⟨d0, f0⟩ := hcell 0 _ (by omega) rfl
      obtain ⟨d1, f1⟩ := hcell 1 _ (by omega) rfl
      obtain ⟨d2, f2⟩ := hcell 2 _ (by omega) rfl
      obtain ⟨d3, f3⟩ := hcell 3 _ (by omega) rfl
      obtain ⟨d4, f4⟩ := hcell 4 _ (by omega) rfl
      obtain ⟨d5, f5⟩ := hcell 5 _ (by omega) rfl
      obtain ⟨d6, f6⟩ := hcell 6 _ (by omega) rfl
      obtain ⟨d7, f7⟩ := hcell 7 _ (by omega) rfl
      obtain ⟨d8, f8⟩ := hcell 8 _ (by omega) rfl
      rw [Nat.add_zero] at d0 f0
      clear hcell f0 f3 f4 f5 f6 f7 f8
      by_cases hle : x.d ≤ z
      · have HTk : Hid (tkM z x = ⟨x.q, z + Ox.del (Ox.more x.s), Ox.more x.s, x.m⟩) := by show _ = _; unfold tkM; rw [if_pos hle]
        rw [decide_eq_true hle] at HX
        rw [HTk.out] at HSu
        have HMo : Hid (Ox.more x.s = if x.s < 1000000 then x.s + 1 else x.s) := rfl
        clear hle HSa HTk HB
        obtain ⟨q, dd, s, ⟨⟨k0, r, n, L, dt, y⟩, ax, cx⟩⟩ := x
        dsimp only [Mn.v, Mi.v] at *
        obtain ⟨s', hs'⟩ : ∃ s', s' = Ox.more s := ⟨_, rfl⟩
        rw [← hs'] at HSu HMo
        have hN := HNx.out s'
        have hP1 := fun wx => HPut.out wx ⟨q, dd, s, ⟨⟨k0, r, n, L, dt, y⟩, ax, cx⟩⟩ ⟨q, dd, s', ⟨⟨k0, r, n, L, dt, y⟩, ax, cx⟩⟩ rfl 2 (.int .i64 s') (by omega) rfl
        have hP2 := fun wx => HPut.out wx ⟨q, dd, s', ⟨⟨k0, r, n, L, dt, y⟩, ax, cx⟩⟩ ⟨q, z + Ox.del s', s', ⟨⟨k0, r, n, L, dt, y⟩, ax, cx⟩⟩ rfl 1 (.int .i64 (z + Ox.del s')) (by omega) rfl
        have HP1 := Lib.hid hP1
        have HP2 := Lib.hid hP2
        have HN2 := Lib.hid hN
        clear hP1 hP2 hN HPut HNx hs'
        generalize Ox.del s' = ds at *
        go_wp2_with fail
        refine (HX.out _ (HG.out.trans (by repeat(first|exact Gr.r _|refine Gr.a ?_|refine Gr.d ?_|refine Gr.t ?_ (by assumption))))).mono ?_
        rintro e1 w1 ⟨rfl, hg1⟩
        have g3 : Gr wr w1 := (Gr.refl wr).alloc.trans hg1
        have B1 := (Cs.new wr [.int .i64 q, .int .i64 dd, .int .i64 s, .int .i64 k0, .int .i64 r, .int .i64 n, .slice ax L.length cx, .string dt, .int .i64 y] 79 _ rfl).gr hg1
        have b2 := B1.at_ 2 _ rfl
        have bl := B1.lt
        have d2 := g3.keep d2
        have d1 := g3.keep d1
        have f1 := g3.keepF hgl f1
        have f2 := g3.keepF hgl f2
        have hgl1 : gb < w1.heap.size := Nat.lt_of_lt_of_le hgl g3.size
        have hne : gb ≠ wr.heap.size := by omega
        have HB2 := Lib.hid (HP1.out w1 (HB1.out.gr g3))
        have HG2 := Lib.hid (HG.out.trans g3)
        clear HX hg1 g3 d0 d3 d4 d5 d6 d7 d8 B1 HB1
        have hmn : min (s + 1) 1000000 = s' := by
          have := HMo.out
          rw [this]
          split <;> omega
        clear HMo
        go_wp2_with fail
        refine (HN2.out _).mono ?_
        rintro e2 w2 ⟨rfl, hw2⟩; obtain rfl := hw2.symm
        go_wp2
        go_roundw
        case rel => exact ⟨k + 1, by go_num, by omega, by rw [← HSu.out]; exact HP2.out _ HB2.out, (HG2.out.set _ (by simp; omega) _).set _ (by simp; omega) _⟩
        case measure => simp [intOf]; omega
      · have HTk : Hid (tkM z x = x) := by show _ = _; unfold tkM; rw [if_neg hle]
        rw [decide_eq_false hle] at HX
        have HSe2 := Lib.hid (HSa.out HTk.out)
        clear hle HSa HTk HSu HPut HB1
        obtain ⟨q, dd, s, ⟨⟨k0, r, n, L, dt, y⟩, ax, cx⟩⟩ := x
        dsimp only [Mn.v, Mi.v] at *
        go_wp2_with fail
        refine (HX.out _ (HG.out.trans (by repeat(first|exact Gr.r _|refine Gr.a ?_|refine Gr.d ?_|refine Gr.t ?_ (by assumption))))).mono ?_
        rintro e1 w1 ⟨rfl, hg1⟩
        have g3 : Gr wr w1 := (Gr.refl wr).alloc.trans hg1
        have HB2 := Lib.hid (HB.out.gr g3)
        have HG2 := Lib.hid (HG.out.trans g3)
        clear HX hg1 g3 d0 d1 d2 d3 d4 d5 d6 d7 d8 f1 f2 HB
        go_wp2
        go_roundw
        case rel => exact ⟨k + 1, by go_num, by omega, by rw [HSe2.out]; exact HB2.out, HG2.out⟩
        case measure => simp [intOf]; omega
    · have hge : ¬ ((k : Int) < (E.length : Int)) := by omega
      have HL : Hid (its (part z E k) = (its D).map (Ox.tick z)) := by
        show _ = _
        rw [part_all z E k (by omega), its_tk, HEl.out]
      have HB := Lib.hid hbx
      have HPl := Lib.hid (part_len z E k)
      clear hbx hg
      go_wp2
      go_ret
      exact ⟨a, c, part z E k, by rw [HPl.out]; rfl, by rw [HPl.out]; exact HB.out, HL.out, HG.out⟩
end Go.Proofs.Ythfbpilfdfploaa
namespace Go.Proofs.Ythfbpilfdfploaa
open Go.RowKit

variable {Z : Nat → Prop}
theorem oMayE_ok {D : List Mi} (h : Ox.mayB okN (its D) = true) : oMayE D = 0 := by unfold oMayE; rw [if_pos h]
theorem oMayE_bad {D : List Mi} (h : Ox.mayB okN (its D) = false) : oMayE D = 2 := by unfold oMayE; rw [h]; rfl
theorem mayB_len {D : List Mi} (h : Ox.mayB okN (its D) = true) : D.length ≤ 12 := by
  have := ((Ox.mayB_iff _ _).1 h).len
  rwa [its_len] at this
theorem may_one {D : List Mi} (h : Ox.mayB okN (its D) = true) : ∀ y ∈ its D, (1 ≤ y.q ∧ y.q ≤ 1000000000) ∧ okN y.n = true ∧ (0 ≤ y.d ∧ y.d ≤ 1000000016) ∧ (0 ≤ y.s ∧ y.s ≤ 1000000) :=
  fun y hy => (Ox.one_iff _ _).1 (((Ox.mayB_iff _ _).1 h).all y hy)
theorem small_its {E : List Mi} (h : ∀ y ∈ its E, okN y.n = true) : ∀ x ∈ E, x.m.x.L.length ≤ 1000 ∧ x.m.x.d.size ≤ 1000 := by
  intro x hx
  have := h x.it (List.mem_map.2 ⟨x, hx, rfl⟩)
  obtain ⟨h1, h2⟩ := nt_small (x := x.m.x) (by rw [← okN_pk]; exact this)
  omega
theorem its_filt (D : List Mi) (f : Ox.It Nx → Bool) : its (D.filter fun x => f x.it) = (its D).filter f := by
  unfold its
  rw [List.filter_map]; rfl

set_option maxHeartbeats 4000000 in
set_option maxRecDepth 100000 in
theorem answered_any (D : List Mi) (low : Int) (ad : Option Addr) (cap : Nat) (w : World) (hZ : Frs Z w) (hD : ItsAt Z w ad D) (hc : D.length ≤ cap) (hn : D.length ≤ 9223372036854775807) :
    Calls Try.prog 36 #[.slice ad D.length cap, .int .i64 low] w fun e w' => BxR Z (Ox.ans okN (its D) low) w e w' := by
  have HZ := Lib.hid hZ
  clear hZ
  have HM : Hid (∀ w', Gr w w' → Calls Try.prog 42 #[.slice ad D.length cap] w' fun e w2 => e = .returned (.int .i64 (oMayE D)) ∧ Gr w' w2) := fun w' g => oMay_any D ad cap w' (hD.gr g) hc hn
  cases hm : Ox.mayB okN (its D) with
  | false =>
    have HF : Hid (Ox.ans okN (its D) low = its []) := by show _ = _; unfold Ox.ans; rw [hm]; rfl
    rw [oMayE_bad hm] at HM
    clear hm hD
    go_enter Try.func36, Try.ntmps36
    go_wp2_with fail
    refine (HM.out _ ?_).mono ?_
    · exact (by repeat(first|exact Gr.r _|refine Gr.a ?_|refine Gr.d ?_|refine Gr.t ?_ (by assumption)))
    rintro e1 w1 ⟨rfl, hg1⟩
    go_wp2
    go_ret
    exact ⟨none, 0, [], rfl, Bxs.nil _ _, HF.out.symm, (by repeat(first|exact Gr.r _|refine Gr.a ?_|refine Gr.d ?_|refine Gr.t ?_ (by assumption)))⟩
  | true =>
    have HF : Hid (Ox.ans okN (its D) low = its (D.filter fun x => decide (low < x.q))) := by
      show _ = _
      unfold Ox.ans
      rw [if_pos hm]
      exact (its_filt D (fun y => decide (low < y.q))).symm
    rw [oMayE_ok hm] at HM
    have hl12 := mayB_len hm
    have HO : Hid (∀ y ∈ its (D.filter fun x => decide (low < x.q)), okN y.n = true) := by
      intro y hy
      replace hy : y ∈ (its D).filter (fun y => decide (low < y.q)) := by rw [← its_filt]; exact hy
      exact (may_one hm y (List.mem_filter.1 hy).1).2.1
    have HCh : Hid (∀ w' g, Gr w w' → w'.cell? ⟨g, 0, none⟩ = some (.int .i64 low) → Calls Try.prog 50 #[.slice ad D.length cap, .func (.func 51) #[] #[.pointer (some ⟨g, 0, none⟩)]] w' fun e w2 => BxR Z (its (D.filter fun x => decide (low < x.q))) w' e w2) := fun w' g gr hb => chosenAns_any D low ad cap g w' (hD.gr gr) (by omega) hb
    have HLf : Hid ((D.filter fun x => decide (low < x.q)).length ≤ 12) := Nat.le_trans (List.length_filter_le _ _) hl12
    generalize (D.filter fun x => decide (low < x.q)) = F at *
    clear hm hD
    go_enter Try.func36, Try.ntmps36
    have hmf : ∀ (fn : Fn) (first cap : Array Value) (w : World), (Instr.makeFunc fn first cap).run Try.prog w = .ok (.func fn first cap) w := fun _ _ _ _ => rfl
    go_wp2_with fail
    refine (HM.out _ ?_).mono ?_
    · exact (by repeat(first|exact Gr.r _|refine Gr.a ?_|refine Gr.d ?_|refine Gr.t ?_ (by assumption)))
    rintro e1 w1 ⟨rfl, hg1⟩
    have HG1 : Hid (Gr w w1) := (by repeat(first|exact Gr.r _|refine Gr.a ?_|refine Gr.d ?_|refine Gr.t ?_ (by assumption)))
    have c0 : w1.cell? ⟨w.heap.size, 0, none⟩ = some (.int .i64 low) := hg1.keep (by simp)
    clear hg1 HM
    go_wp2_with fail
    refine (HCh.out _ _ HG1.out c0).mono ?_
    rintro e2 w2 ⟨a, c, E, rfl, hb, he, hg2⟩
    have HE := Lib.hid he
    have HG2 := Lib.hid (HG1.out.trans hg2)
    obtain ⟨ad2, cap2, e2, _, _, hit, _⟩ := hb.at
    cases e2
    have HIt := Lib.hid hit
    have HCp : Hid (∀ w', Gr w2 w' → Calls Try.prog 49 #[.slice a E.length c] w' fun e w2 => BxR Z (its E) w' e w2) := fun w' g => copied_any E a c w' (HZ.out.gr (HG2.out.trans g)) (HIt.out.gr g) (by have := congrArg List.length HE.out; have := HLf.out; simp [its] at *; omega) (small_its (by rw [HE.out]; exact HO.out))
    clear he hg2 hit hb c0 HG1 HCh
    go_wp2_with fail
    refine (HCp.out _ ?_).mono ?_
    · exact (by repeat(first|exact Gr.r _|refine Gr.a ?_|refine Gr.d ?_|refine Gr.t ?_ (by assumption)))
    rintro e3 w3 ⟨a3, c3, E3, rfl, hb3, he3, hg3⟩
    have HE3 := Lib.hid he3
    have HB3 := Lib.hid (hb3.low (base' := w.heap.size) HG2.out.size)
    have HG3 := Lib.hid (HG2.out.trans hg3)
    clear he3 hb3 hg3
    go_wp2
    go_ret
    exact ⟨a3, c3, E3, rfl, HB3.out, by rw [HE3.out, HE.out, HF.out], HG3.out⟩

theorem oHold1 {a b : World} (g : Gr a b) {q0 : Addr} {v0 : Value} (h0 : a.cell? q0 = some v0) : Gr a b ∧ b.cell? q0 = some v0 := ⟨g, g.keep h0⟩
/- what Due answers -/
def DuR (Z : Nat → Prop) (l1 l2 : List (Ox.It Nx)) (w : World) (e : Ending) (w' : World) : Prop :=
  ∃ a c E a2 c2 E2, e = .returned (.tuple #[.slice a E.length c, .slice a2 E2.length c2]) ∧ Bxs Z w' w.heap.size (.slice a E.length c) E ∧ Bxs Z w' w.heap.size (.slice a2 E2.length c2) E2 ∧ its E = l1 ∧ its E2 = l2 ∧ Gr w w'
set_option maxHeartbeats 8000000 in
set_option maxRecDepth 100000 in
theorem due_any (D : List Mi) (now : Int) (ad : Option Addr) (cap : Nat) (w : World) (hZ : Frs Z w) (hD : ItsAt Z w ad D) (hc : D.length ≤ cap) (hn : D.length ≤ 9223372036854775807) :
    Calls Try.prog 44 #[.slice ad D.length cap, .int .i64 now] w fun e w' => DuR Z (Ox.dueL okN (its D) now) (Ox.dueD okN (its D) now) w e w' := by
  have HZ := Lib.hid hZ
  clear hZ
  have HM : Hid (∀ w', Gr w w' → Calls Try.prog 42 #[.slice ad D.length cap] w' fun e w2 => e = .returned (.int .i64 (oMayE D)) ∧ Gr w' w2) := fun w' g => oMay_any D ad cap w' (hD.gr g) hc hn
  have HT : Hid (∀ w', Calls Try.prog 62 #[.int .i64 now] w' fun e w2 => e = .returned (.bool (Ox.tmB now)) ∧ w2 = w') := fun w' => isTime_any now w'
  cases hm : Ox.mayB okN (its D) with
  | false =>
    have HF : Hid (Ox.dueL okN (its D) now = its [] ∧ Ox.dueD okN (its D) now = its []) := by
      constructor
      · unfold Ox.dueL; rw [hm]; rfl
      · unfold Ox.dueD; rw [hm]; rfl
    rw [oMayE_bad hm] at HM
    clear hm hD
    go_enter Try.func44, Try.ntmps44
    go_wp2_with fail
    refine (HM.out _ ?_).mono ?_
    · exact (by repeat(first|exact Gr.r _|refine Gr.a ?_|refine Gr.d ?_|refine Gr.t ?_ (by assumption)))
    rintro e1 w1 ⟨rfl, hg1⟩
    have c0 : w1.cell? ⟨w.heap.size, 0, none⟩ = some (.int .i64 now) := hg1.keep (by simp)
    go_wp2
    go_ret2
    exact ⟨none, 0, [], none, 0, [], rfl, Bxs.nil _ _, Bxs.nil _ _, HF.out.1.symm, HF.out.2.symm, (by repeat(first|exact Gr.r _|refine Gr.a ?_|refine Gr.d ?_|refine Gr.t ?_ (by assumption)))⟩
  | true =>
    rw [oMayE_ok hm] at HM
    cases ht : Ox.tmB now with
    | false =>
      have HF : Hid (Ox.dueL okN (its D) now = its [] ∧ Ox.dueD okN (its D) now = its []) := by
        constructor
        · unfold Ox.dueL; rw [hm, ht]; rfl
        · unfold Ox.dueD; rw [hm, ht]; rfl
      rw [ht] at HT
      clear hm hD ht
      go_enter Try.func44, Try.ntmps44
      go_wp2_with fail
      refine (HM.out _ ?_).mono ?_
      · exact (by repeat(first|exact Gr.r _|refine Gr.a ?_|refine Gr.d ?_|refine Gr.t ?_ (by assumption)))
      rintro e1 w1 ⟨rfl, hg1⟩
      have c0 : w1.cell? ⟨w.heap.size, 0, none⟩ = some (.int .i64 now) := hg1.keep (by simp)
      go_wp2_with fail
      refine (HT.out _).mono ?_
      rintro e2 w2 ⟨rfl, hw2⟩; obtain rfl := hw2.symm
      go_wp2
      go_ret2
      exact ⟨none, 0, [], none, 0, [], rfl, Bxs.nil _ _, Bxs.nil _ _, HF.out.1.symm, HF.out.2.symm, (by repeat(first|exact Gr.r _|refine Gr.a ?_|refine Gr.d ?_|refine Gr.t ?_ (by assumption)))⟩
    | true =>
      have htn := of_decide_eq_true ht
      have HF1 : Hid (Ox.dueL okN (its D) now = (its D).map (Ox.tick now)) := by show _ = _; unfold Ox.dueL; rw [if_pos ⟨hm, ht⟩]
      have HF2 : Hid (Ox.dueD okN (its D) now = (its (D.filter fun x => decide (x.d ≤ now))).map (Ox.tick now)) := by
        show _ = _
        unfold Ox.dueD
        rw [if_pos ⟨hm, ht⟩]
        exact congrArg _ (its_filt D (fun y => decide (y.d ≤ now))).symm
      rw [ht] at HT
      have hl12 := mayB_len hm
      have HO : Hid (∀ y ∈ its (D.filter fun x => decide (x.d ≤ now)), okN y.n = true ∧ 0 ≤ y.s ∧ y.s ≤ 1000000) := by
        intro y hy
        replace hy : y ∈ (its D).filter (fun y => decide (y.d ≤ now)) := by rw [← its_filt]; exact hy
        have := may_one hm y (List.mem_filter.1 hy).1
        exact ⟨this.2.1, this.2.2.2⟩
      have HA : Hid (∀ w' g, Gr w w' → w'.cell? ⟨g, 0, none⟩ = some (.int .i64 now) → Calls Try.prog 70 #[.slice ad D.length cap, .func (.func 69) #[] #[.pointer (some ⟨g, 0, none⟩)], .int .i64 now] w' fun e w2 => BxR Z ((its D).map (Ox.tick now)) w' e w2) := fun w' g gr hb => sent_any D now ad cap g w' (HZ.out.gr gr) (hD.gr gr) (by omega) (small_its (fun y hy => (may_one hm y hy).2.1)) (fun y hy => (may_one hm y hy).2.2.2) htn hb
      have HB : Hid (∀ w' g, Gr w w' → w'.cell? ⟨g, 0, none⟩ = some (.int .i64 now) → Calls Try.prog 50 #[.slice ad D.length cap, .func (.func 69) #[] #[.pointer (some ⟨g, 0, none⟩)]] w' fun e w2 => BxR Z (its (D.filter fun x => decide (x.d ≤ now))) w' e w2) := fun w' g gr hb => chosenDue_any D now ad cap g w' (hD.gr gr) (by omega) hb
      have HLf : Hid ((D.filter fun x => decide (x.d ≤ now)).length ≤ 12) := Nat.le_trans (List.length_filter_le _ _) hl12
      generalize (D.filter fun x => decide (x.d ≤ now)) = F at *
      have HCs : Hid (∀ E base a c w1 w' g, Bxs Z w1 base (.slice a E.length c) E → its E = its F → Gr w1 w' → Gr w w' → w'.cell? ⟨g, 0, none⟩ = some (.int .i64 now) → Calls Try.prog 70 #[.slice a E.length c, .func (.func 69) #[] #[.pointer (some ⟨g, 0, none⟩)], .int .i64 now] w' fun e w2 => BxR Z ((its F).map (Ox.tick now)) w' e w2) := by
        intro E base a c w1 w' g hb he gr grw hc0
        obtain ⟨ad2, cap2, e2, _, _, hit, _⟩ := hb.at
        cases e2
        rw [← he]
        refine sent_any E now a c g w' (HZ.out.gr grw) (hit.gr gr) ?_ (small_its (by rw [he]; exact fun y hy => (HO.out y hy).1)) (by rw [he]; exact fun y hy => (HO.out y hy).2) htn hc0
        have h1 := congrArg List.length he
        have h2 := HLf.out
        rw [its_len, its_len] at h1
        omega
      clear hm hD ht htn HO HLf
      go_enter Try.func44, Try.ntmps44
      have hmf : ∀ (fn : Fn) (first cap : Array Value) (w : World), (Instr.makeFunc fn first cap).run Try.prog w = .ok (.func fn first cap) w := fun _ _ _ _ => rfl
      go_wp2_with fail
      refine (HM.out _ ?_).mono ?_
      · exact (by repeat(first|exact Gr.r _|refine Gr.a ?_|refine Gr.d ?_|refine Gr.t ?_ (by assumption)))
      rintro e1 w1 ⟨rfl, hg1⟩
      have c0 : w1.cell? ⟨w.heap.size, 0, none⟩ = some (.int .i64 now) := hg1.keep (by simp)
      have HG1 : Hid (Gr w w1) := (by repeat(first|exact Gr.r _|refine Gr.a ?_|refine Gr.d ?_|refine Gr.t ?_ (by assumption)))
      clear hg1 HM
      go_wp2_with fail
      refine (HT.out _).mono ?_
      rintro e2 w2 ⟨rfl, hw2⟩; obtain rfl := hw2.symm
      go_wp2_with fail
      refine wp_region_held_drew (S := (fun w' => Gr w1 w' ∧ w'.cell? ⟨w.heap.size, 0, none⟩ = some (.int .i64 now))) (by kernel_rfl) (by exact oHold1 (by repeat(first|exact Gr.r _|refine Gr.a ?_|refine Gr.d ?_|refine Gr.t ?_ (by assumption))) c0) (fun hHeld => ?_)
      refine ty 0 16 hHeld ?_
      refine ty 1 17 hHeld ?_
      refine ty 2 18 hHeld ?_
      refine ty 4 20 hHeld ?_
      refine ty 5 21 hHeld ?_
      refine ty 7 23 hHeld ?_
      refine ty 8 24 hHeld ?_
      refine wpAnyH_ready (rs := [3]) (by kernel_rfl) (by simp) (AllReadyH.cons rfl (fun K hK => ?_) AllReadyH.nil)
      go_simp
      (go_at_call 70; refine (HA.out _ _ (HG1.out.trans hHeld.1) hHeld.2).mono ?_; rintro e3 w3 ⟨a, c, E, rfl, hb, he, hg3⟩)
      (try go_wp2_with fail)
      refine hK.out _ _ (by exact oHold1 (by repeat(first|exact Gr.r _|refine Gr.a ?_|refine Gr.d ?_|refine Gr.t ?_ (by assumption))) c0) (fun hHeldN => ?_)
      clear hHeld hK K
      have hHeld := hHeldN
      clear hHeldN
      have k3 := hHeld.1
      refine wpAnyH_ready (rs := [6]) (by kernel_rfl) (by simp) (AllReadyH.cons rfl (fun K hK => ?_) AllReadyH.nil)
      go_simp
      (go_at_call 50; refine (HB.out _ _ (HG1.out.trans hHeld.1) hHeld.2).mono ?_; rintro e4 w4 ⟨a4, c4, E4, rfl, hb4, he4, hg4⟩)
      (try go_wp2_with fail)
      refine hK.out _ _ (by exact oHold1 (by repeat(first|exact Gr.r _|refine Gr.a ?_|refine Gr.d ?_|refine Gr.t ?_ (by assumption))) c0) (fun hHeldN => ?_)
      clear hHeld hK K
      have hHeld := hHeldN
      clear hHeldN
      have k4 := hHeld.1
      refine wpAnyH_ready (rs := [9]) (by kernel_rfl) (by simp) (AllReadyH.cons rfl (fun K hK => ?_) AllReadyH.nil)
      go_simp
      (go_at_call 70; refine (HCs.out _ _ _ _ _ _ _ hb4 he4 (Gr.refl _) (HG1.out.trans hHeld.1) hHeld.2).mono ?_; rintro e5 w5 ⟨a5, c5, E5, rfl, hb5, he5, hg5⟩)
      (try go_wp2_with fail)
      refine hK.out _ _ (by exact oHold1 (by repeat(first|exact Gr.r _|refine Gr.a ?_|refine Gr.d ?_|refine Gr.t ?_ (by assumption))) c0) (fun hHeldN => ?_)
      clear hHeld hK K
      have hHeld := hHeldN
      clear hHeldN
      refine ty 10 4 hHeld ?_
      refine ty 11 5 hHeld ?_
      refine wpAnyH_done (by kernel_rfl) ?_ _
      have q1 := Lib.hid (((hb.gr hg4).gr hg5).low (base' := w.heap.size) (by have := HG1.out.size; have := (Gr.refl w1).drew.size; omega))
      have q2 := Lib.hid (hb5.low (base' := w.heap.size) (by have := HG1.out.size; have := k4.size; omega))
      have q3 := Lib.hid he
      have q4 := Lib.hid he5
      have q5 := Lib.hid (HG1.out.trans hHeld.1)
      clear hb hb4 hb5 he he4 he5 HA HB HCs HT
      go_wp2
      go_ret2
      exact ⟨a, c, E, a5, c5, E5, rfl, q1.out, q2.out, by rw [q3.out, HF1.out], by rw [q4.out, HF2.out], q5.out⟩
end Go.Proofs.Ythfbpilfdfploaa
namespace Go.Proofs.Ythfbpilfdfploaa
open Go.RowKit

variable {Z : Nat → Prop}
theorem num_snoc (now : Int) (x : Ox.It Nx) : ∀ (l : List (Ox.It Nx)) (k : Int), Ox.num now k (l ++ [x]) = Ox.num now k l ++ [⟨k + l.length, now, 0, x.n⟩]
  | [], k => by simp [Ox.num]
  | y :: r, k => by
    rw [List.cons_append, Ox.num, num_snoc now x r (k + 1), Ox.num, List.cons_append, List.length_cons, show k + 1 + (r.length : Int) = k + ((r.length + 1 : Nat) : Int) by omega]
theorem num_take_succ (now : Int) (D : List Mi) (k : Nat) (h : k < D.length) : Ox.num now 1 ((its D).take (k + 1)) = Ox.num now 1 ((its D).take k) ++ [⟨1 + (k : Int), now, 0, pk D[k].m.x⟩] := by
  rw [its_take_succ D k h, num_snoc]
  have : ((its D).take k).length = k := by rw [List.length_take, its_len]; omega
  rw [this]; rfl

set_option maxHeartbeats 8000000 in
set_option maxRecDepth 100000 in
theorem anew_any (D : List Mi) (now : Int) (ad : Option Addr) (cap : Nat) (w : World) (hZ : Frs Z w) (hD : ItsAt Z w ad D) (hc : D.length ≤ cap) (hn : D.length ≤ 9223372036854775807) :
    Calls Try.prog 48 #[.slice ad D.length cap, .int .i64 now] w fun e w' => BxR Z (Ox.anew okN (its D) now) w e w' := by
  obtain ⟨i0, hi0, hz0, hz1, hz2⟩ := info_parts infoItem
  have HM : Hid (∀ w', Gr w w' → Calls Try.prog 42 #[.slice ad D.length cap] w' fun e w2 => e = .returned (.int .i64 (oMayE D)) ∧ Gr w' w2) := fun w' g => oMay_any D ad cap w' (hD.gr g) hc hn
  have HT : Hid (∀ w', Calls Try.prog 62 #[.int .i64 now] w' fun e w2 => e = .returned (.bool (Ox.tmB now)) ∧ w2 = w') := fun w' => isTime_any now w'
  cases hm : Ox.mayB okN (its D) with
  | false =>
    have HF : Hid (Ox.anew okN (its D) now = its []) := by show _ = _; unfold Ox.anew; rw [hm]; rfl
    rw [oMayE_bad hm] at HM
    clear hm hD
    go_enter Try.func48, Try.ntmps48
    go_wp2_with fail
    refine (HM.out _ ?_).mono ?_
    · exact (by repeat(first|exact Gr.r _|refine Gr.a ?_|refine Gr.d ?_|refine Gr.t ?_ (by assumption)))
    rintro e1 w1 ⟨rfl, hg1⟩
    go_wp2
    go_ret
    exact ⟨none, 0, [], rfl, Bxs.nil _ _, HF.out.symm, (by repeat(first|exact Gr.r _|refine Gr.a ?_|refine Gr.d ?_|refine Gr.t ?_ (by assumption)))⟩
  | true =>
    rw [oMayE_ok hm] at HM
    cases ht : Ox.tmB now with
    | false =>
      have HF : Hid (Ox.anew okN (its D) now = its []) := by show _ = _; unfold Ox.anew; rw [hm, ht]; rfl
      rw [ht] at HT
      clear hm hD ht
      go_enter Try.func48, Try.ntmps48
      go_wp2_with fail
      refine (HM.out _ ?_).mono ?_
      · exact (by repeat(first|exact Gr.r _|refine Gr.a ?_|refine Gr.d ?_|refine Gr.t ?_ (by assumption)))
      rintro e1 w1 ⟨rfl, hg1⟩
      go_wp2_with fail
      refine (HT.out _).mono ?_
      rintro e2 w2 ⟨rfl, hw2⟩; obtain rfl := hw2.symm
      go_wp2
      go_ret
      exact ⟨none, 0, [], rfl, Bxs.nil _ _, HF.out.symm, (by repeat(first|exact Gr.r _|refine Gr.a ?_|refine Gr.d ?_|refine Gr.t ?_ (by assumption)))⟩
    | true =>
      have HF : Hid (Ox.anew okN (its D) now = Ox.num now 1 (its D)) := by show _ = _; unfold Ox.anew; rw [if_pos ⟨hm, ht⟩]
      rw [ht] at HT
      have hl12 := mayB_len hm
      have hsm := small_its (fun y hy => (may_one hm y hy).2.1)
      have HC : Hid (∀ x ∈ D, ∀ q w', Gr w w' → Calls Try.prog 73 #[.int .i64 q, .int .i64 now, x.m.v] w' fun e w2 => ∃ a c, e = .returned (Mi.v ⟨q, now, 0, ⟨x.m.x, a, c⟩⟩) ∧ MnAt Z w2 ⟨x.m.x, a, c⟩ ∧ (∀ p, a = some p → w'.heap.size ≤ p.block) ∧ Gr w' w2) := fun x hx q w' g => fresh_any q now x.m w' (hZ.gr g) ((hD.nt x hx).gr g) (hsm x hx).1 (hsm x hx).2
      have HD := Lib.hid hD.row
      clear hm hD ht hsm hZ
      go_enter Try.func48, Try.ntmps48
      go_wp2_with fail
      refine (HM.out _ ?_).mono ?_
      · exact (by repeat(first|exact Gr.r _|refine Gr.a ?_|refine Gr.d ?_|refine Gr.t ?_ (by assumption)))
      rintro e1 w1 ⟨rfl, hg1⟩
      have HG1 : Hid (Gr w w1) := (by repeat(first|exact Gr.r _|refine Gr.a ?_|refine Gr.d ?_|refine Gr.t ?_ (by assumption)))
      clear hg1 HM
      go_wp2_with fail
      refine (HT.out _).mono ?_
      rintro e2 w2 ⟨rfl, hw2⟩; obtain rfl := hw2.symm
      go_wp2
      go_loopw [5, 18] (fun s5 s18 wr => ∃ (k : Nat) (a : Option Addr) (c : Nat) (E : List Mi), s18 = .int .i64 k ∧ s5 = .slice a E.length c ∧ k ≤ D.length ∧ E.length = k ∧ its E = Ox.num now 1 ((its D).take k) ∧ Bxs Z wr w.heap.size (.slice a E.length c) E ∧ Gr w wr) (fun _ s18 _ => D.length - (intOf s18).toNat)
      case atStart => exact ⟨0, none, 0, [], rfl, rfl, Nat.zero_le _, rfl, by simp [its, Ox.num], Bxs.nil _ _, HG1.out⟩
      case round =>
        clear HG1
        obtain ⟨k, a, c, E, rfl, rfl, hk, hE, hEl, hbx, hg⟩ := hrel
        have HG := Lib.hid hg
        have HB := Lib.hid hbx
        have HEl := Lib.hid hEl
        have HEk : Hid (E.length = k) := hE
        have hEb : E.length ≤ 1000 := by omega
        clear hbx hEl hE
        by_cases hlt : k < D.length
        · obtain ⟨b, off, rfl, hbl, d0, d1, d2, d3, d4, d5, d6, d7, d8⟩ := ItsRow.at HD.out k hlt
          have d0 := hg.keep d0
          have d1 := hg.keep d1
          have d2 := hg.keep d2
          have d3 := hg.keep d3
          have d4 := hg.keep d4
          have d5 := hg.keep d5
          have d6 := hg.keep d6
          have d7 := hg.keep d7
          have d8 := hg.keep d8
          have hbw : b < wr.heap.size := Nat.lt_of_lt_of_le hbl hg.size
          have hki : (k : Int) < (D.length : Int) := by omega
          have HX := Lib.hid (HC.out D[k] (List.getElem_mem hlt) (1 + (k : Int)))
          have HT := Lib.hid (num_take_succ now D k hlt)
          clear hg
          generalize D[k] = x at *
          obtain ⟨q, dd, s, ⟨⟨k0, r, n, L, dt, y⟩, ax, cx⟩⟩ := x
          dsimp only [Mn.v, Mi.v] at *
          go_wp2_with fail
          refine (HX.out _ (HG.out.trans (by repeat(first|exact Gr.r _|refine Gr.a ?_|refine Gr.d ?_|refine Gr.t ?_ (by assumption))))).mono ?_
          rintro e1 w3 ⟨a2, c2, rfl, hm2, hf2, hg3⟩
          have hs1 : wr.heap.size + 1 ≤ w3.heap.size := by have := hg3.size; simpa using this
          have g3 : Gr wr w3 := (Gr.refl wr).alloc.trans hg3
          have HOw := Lib.hid ((HB.out.gr g3).gr ((Gr.refl w3).alloc (o := .cells #[.int .i64 (1 + (k : Int)), .int .i64 now, .int .i64 0, .int .i64 k0, .int .i64 r, .int .i64 n, .slice a2 L.length c2, .string dt, .int .i64 y] 79)))
          have HM4 := Lib.hid (hm2.gr ((Gr.refl w3).alloc (o := .cells #[.int .i64 (1 + (k : Int)), .int .i64 now, .int .i64 0, .int .i64 k0, .int .i64 r, .int .i64 n, .slice a2 L.length c2, .string dt, .int .i64 y] 79)))
          have HG4 : Hid (Gr w (w3.alloc (.cells #[.int .i64 (1 + (k : Int)), .int .i64 now, .int .i64 0, .int .i64 k0, .int .i64 r, .int .i64 n, .slice a2 L.length c2, .string dt, .int .i64 y] 79))) := (HG.out.trans g3).alloc
          have hnw := i_new w3 ⟨1 + (k : Int), now, 0, ⟨⟨k0, r, n, L, dt, y⟩, a2, c2⟩⟩ 79
          rw [show (iC ⟨1 + (k : Int), now, 0, ⟨⟨k0, r, n, L, dt, y⟩, a2, c2⟩⟩).toArray = #[.int .i64 (1 + (k : Int)), .int .i64 now, .int .i64 0, .int .i64 k0, .int .i64 r, .int .i64 n, .slice a2 L.length c2, .string dt, .int .i64 y] from rfl] at hnw
          have HNw := Lib.hid hnw
          have HAp : Hid (L ≠ [] → ∀ p, a2 = some p → (Value.slice a E.length c).ownBlock ≠ some p.block) := fun _ => ap_new HB.out (fun p e => by have := hf2 p e; simp at this; omega)
          have hlen4 : w.heap.size ≤ w3.heap.size := by have := HG.out.size; omega
          clear hm2 hf2 hg3 g3 hnw HX d0 d1 d2 d3 d4 d5 d6 d7 d8
          have hm1 : E.length + 1 ≤ maxLen := by unfold maxLen; omega
          go_wp2_with (first
            | (at_builtin; refine wpList_append_own_at _ rfl _ _ 32 rfl w.heap.size 79 i0 (.agg #[.int .i64 0, .int .i64 0, .int .i64 0, .int .i64 0, .int .i64 0, .int .i64 0, .slice none 0 0, .string ⟨#[]⟩, .int .i64 0]) 9 96 Try.underlying32 hi0 hz0 hz1 hz2 rfl (by decide) _ _ _ rfl HOw.out.own ⟨w3.heap.size, 0, none⟩ 1 1 ([(⟨1 + (k : Int), now, 0, ⟨⟨k0, r, n, L, dt, y⟩, a2, c2⟩⟩ : Mi)].flatMap iC) rfl rfl HNw.out (i_one _) hm1 (by omega) (by simp; omega) ?_)
            | fail)
          intro v' w5 hown' hgrow _ hat
          have hmo := Bxs.more (x := ⟨1 + (k : Int), now, 0, ⟨⟨k0, r, n, L, dt, y⟩, a2, c2⟩⟩) HOw.out HM4.out HAp.out hown' hgrow (by simpa using hat)
          obtain ⟨a5, c5, rfl⟩ := own_slice3 hmo
          have HMo := Lib.hid hmo
          have HG5 := Lib.hid (HOw.out.grown HG4.out hgrow (Nat.le_refl _))
          have HL5 : Hid (its (E ++ [(⟨1 + (k : Int), now, 0, ⟨⟨k0, r, n, L, dt, y⟩, a2, c2⟩⟩ : Mi)]) = Ox.num now 1 ((its D).take (k + 1))) := by
            show _ = _
            rw [its_app, HEl.out, HT.out]; rfl
          clear hmo hown' hgrow hat HOw HM4 HNw HAp
          go_wp2
          go_roundw
          case rel => exact ⟨k + 1, a5, c5, E ++ [(⟨1 + (k : Int), now, 0, ⟨⟨k0, r, n, L, dt, y⟩, a2, c2⟩⟩ : Mi)], by go_num, rfl, by omega, by have := HEk.out; simp; omega, HL5.out, HMo.out, HG5.out⟩
          case measure => simp [intOf]; omega
        · have hge : ¬ ((k : Int) < (D.length : Int)) := by omega
          have HL : Hid (its E = Ox.anew okN (its D) now) := by
            show _ = _
            rw [HEl.out, HF.out, List.take_of_length_le (by rw [its_len]; omega)]
          go_wp2
          go_ret
          exact ⟨a, c, E, rfl, HB.out, HL.out, HG.out⟩

theorem next_none (f : Int) : Ox.next (its []) f = f := rfl
theorem next_last {D : List Mi} {k : Nat} (h : D.length = k + 1) (f : Int) : Ox.next (its D) f = max f (D[k].q + 1) := by
  unfold Ox.next
  have e : (its D).getLast? = some D[k].it := by
    have e1 := its_get? D k (by omega)
    rw [List.getLast?_eq_getElem?, its_len, show D.length - 1 = k by omega]
    exact e1
  rw [e]
  show (if f ≤ D[k].q then D[k].q + 1 else f) = _
  split <;> omega
set_option maxHeartbeats 2000000 in
set_option maxRecDepth 100000 in
theorem nextNumber_any (D : List Mi) (f : Int) (ad : Option Addr) (cap : Nat) (w : World) (hD : ItsRow w ad D) (hn : D.length ≤ 1000) (hq : ∀ x ∈ D, 1 ≤ x.q ∧ x.q ≤ 1000000000) :
    Calls Try.prog 86 #[.slice ad D.length cap, .int .i64 f] w fun e w' => e = .returned (.int .i64 (Ox.next (its D) f)) ∧ Gr w w' := by
  by_cases h0 : D.length = 0
  · have hd : D = [] := List.length_eq_zero_iff.1 h0
    have HF : Hid (Ox.next (its D) f = f) := by rw [hd]; exact next_none f
    generalize Ox.next (its D) f = R at *
    generalize D.length = ll at *
    subst h0
    clear hD hq hd
    go_enter Try.func86, Try.ntmps86
    go_wp2
    go_ret
    exact ⟨by rw [HF.out]; rfl, (by repeat(first|exact Gr.r _|refine Gr.a ?_|refine Gr.d ?_|refine Gr.t ?_ (by assumption)))⟩
  · obtain ⟨k, hk⟩ : ∃ k, D.length = k + 1 := ⟨D.length - 1, by omega⟩
    have hmx := next_last hk f
    obtain ⟨b, off, rfl, hbl, d0, hrest⟩ := ItsRow.at hD k (by omega)
    clear hrest
    have hqk := hq D[k] (List.getElem_mem (by omega))
    generalize D[k].q = q at *
    generalize Ox.next (its D) f = R at *
    have hz0 : ((D.length : Int) == 0) = false := by rw [beq_eq_false_iff_ne]; omega
    have hz3 : IntKind.i64.wrap (k : Int) = (k : Int) := by rw [IntKind.wrap_i64]; omega
    have hz4 : (D.length : Int) - 1 = (k : Int) := by omega
    have hz5 : (k : Int) < (D.length : Int) := by omega
    generalize D.length = ll at *
    clear hD hq h0
    replace hmx := hmx.symm
    have hk0 : (0 : Int) ≤ (k : Int) := by omega
    go_enter Try.func86, Try.ntmps86
    go_wp2
    go_ret
    exact ⟨by simp [go_sem, *], (by repeat(first|exact Gr.r _|refine Gr.a ?_|refine Gr.d ?_|refine Gr.t ?_ (by assumption)))⟩

set_option maxHeartbeats 2000000 in
set_option maxRecDepth 100000 in
theorem hasO_any (D : List Mi) (m : Mn) (ad : Option Addr) (cap : Nat) (w : World) (hD : ItsAt Z w ad D) (hc : D.length ≤ cap) (hn : D.length ≤ 9223372036854775807) (hm : MnAt Z w m) :
    Calls Try.prog 27 #[.slice ad D.length cap, m.v] w fun e w' => e = .returned (.bool (Ox.hasB okN (its D) (pk m.x))) ∧ Gr w w' := by
  have HM : Hid (∀ w', Gr w w' → Calls Try.prog 42 #[.slice ad D.length cap] w' fun e w2 => e = .returned (.int .i64 (oMayE D)) ∧ Gr w' w2) := fun w' g => oMay_any D ad cap w' (hD.gr g) hc hn
  have HH : Hid (∀ w', Gr w w' → Calls Try.prog 43 #[.slice ad D.length cap, m.v] w' fun e w2 => e = .returned (.bool (Ox.among (its D) (pk m.x))) ∧ Gr w' w2) := fun w' g => has_any D m ad cap w' (hD.gr g) hn (hm.gr g)
  have HE : Hid (Ox.hasB okN (its D) (pk m.x) = (Ox.mayB okN (its D) && Ox.among (its D) (pk m.x))) := rfl
  generalize Ox.hasB okN (its D) (pk m.x) = R at *
  generalize Ox.among (its D) (pk m.x) = A at *
  cases hmay : Ox.mayB okN (its D) with
  | false =>
    rw [oMayE_bad hmay] at HM
    rw [hmay] at HE
    clear hmay hD hm
    obtain ⟨⟨k, r, n, L, d, y⟩, ad2, cap2⟩ := m
    dsimp only [Mn.v] at *
    go_enter Try.func27, Try.ntmps27
    go_wp2_with fail
    refine (HM.out _ ?_).mono ?_
    · exact (by repeat(first|exact Gr.r _|refine Gr.a ?_|refine Gr.d ?_|refine Gr.t ?_ (by assumption)))
    rintro e1 w1 ⟨rfl, hg1⟩
    go_wp2
    go_ret
    exact ⟨by rw [HE.out]; rfl, (by repeat(first|exact Gr.r _|refine Gr.a ?_|refine Gr.d ?_|refine Gr.t ?_ (by assumption)))⟩
  | true =>
    rw [oMayE_ok hmay] at HM
    rw [hmay, Bool.true_and] at HE
    clear hmay hD hm
    obtain ⟨⟨k, r, n, L, d, y⟩, ad2, cap2⟩ := m
    dsimp only [Mn.v] at *
    generalize L.length = ll at *
    go_enter Try.func27, Try.ntmps27
    go_wp2_with fail
    refine (HM.out _ ?_).mono ?_
    · exact (by repeat(first|exact Gr.r _|refine Gr.a ?_|refine Gr.d ?_|refine Gr.t ?_ (by assumption)))
    rintro e1 w1 ⟨rfl, hg1⟩
    have HG1 : Hid (Gr w w1) := (by repeat(first|exact Gr.r _|refine Gr.a ?_|refine Gr.d ?_|refine Gr.t ?_ (by assumption)))
    have B1 := (Cs.new w [.int .i64 k, .int .i64 r, .int .i64 n, .slice ad2 ll cap2, .string d, .int .i64 y] 26 _ rfl).gr hg1
    have c0 := B1.at_ 0 _ rfl
    have c1 := B1.at_ 1 _ rfl
    have c2 := B1.at_ 2 _ rfl
    have c3 := B1.at_ 3 _ rfl
    have c4 := B1.at_ 4 _ rfl
    have c5 := B1.at_ 5 _ rfl
    have cf0 := B1.fz 0 (by simp)
    have cf1 := B1.fz 1 (by simp)
    have cf2 := B1.fz 2 (by simp)
    have cf3 := B1.fz 3 (by simp)
    have cf4 := B1.fz 4 (by simp)
    have cf5 := B1.fz 5 (by simp)
    have clt := B1.lt
    clear hg1 B1
    go_wp2_with fail
    refine (HH.out _ HG1.out).mono ?_
    rintro e2 w2 ⟨rfl, hg2⟩
    have HG2 := Lib.hid (HG1.out.trans hg2)
    go_wp2
    go_ret
    exact ⟨by rw [HE.out]; rfl, HG2.out⟩
end Go.Proofs.Ythfbpilfdfploaa
namespace Go.Proofs.Ythfbpilfdfploaa
open Go.RowKit

variable {Z : Nat → Prop}
theorem mayB_nil : Ox.mayB okN (its []) = true := by decide
end Go.Proofs.Ythfbpilfdfploaa
namespace Go.Proofs.Ythfbpilfdfploaa
open Go.RowKit
open Wn (Wd)

/- a struct of two cells that may be written -/
structure Bx2 (w : World) (g : Nat) (a b : Value) : Prop where
  c0 : w.cell? ⟨g, 0, none⟩ = some a
  c1 : w.cell? ⟨g, 1, none⟩ = some b
  f0 : w.frozen? ⟨g, 0, none⟩ = false
  f1 : w.frozen? ⟨g, 1, none⟩ = false
  lt : g < w.heap.size
theorem Bx2.gr {w w' : World} {g : Nat} {a b : Value} (h : Bx2 w g a b) (k : Gr w w') : Bx2 w' g a b :=
  ⟨k.keep h.c0, k.keep h.c1, k.keepF h.lt h.f0, k.keepF h.lt h.f1, Nat.lt_of_lt_of_le h.lt k.size⟩
theorem Bx2.new (w : World) (a b : Value) (t : TypeId) (g : Nat) (hg : g = w.heap.size) : Bx2 (w.alloc (.cells #[a, b] t)) g a b := by
  subst hg
  exact ⟨by simp, by simp, by simp [go_sem], by simp [go_sem], by simp⟩
theorem Bx2.set0 {w : World} {g : Nat} {a b : Value} (h : Bx2 w g a b) (x : Value) : Bx2 (w.setCell ⟨g, 0, none⟩ x) g x b := by
  obtain ⟨h0, h1, f0, f1, hl⟩ := h
  exact ⟨by simp [go_sem, *], by simp [go_sem, *], by simp [go_sem, *], by simp [go_sem, *], by simpa using hl⟩
theorem Bx2.far {w : World} {g k : Nat} {a b : Value} (h : Bx2 w g a b) (hk : k ≠ g) (o : Nat) (x : Value) : Bx2 (w.setCell ⟨k, o, none⟩ x) g a b := by
  obtain ⟨h0, h1, f0, f1, hl⟩ := h
  exact ⟨by rw [World.cell?_setCell_far _ _ _ _ (by simpa using hk)]; exact h0, by rw [World.cell?_setCell_far _ _ _ _ (by simpa using hk)]; exact h1, by simp [go_sem, *], by simp [go_sem, *], by simpa using hl⟩
theorem IntsAt.set {w : World} {ad : Option Addr} {l : List Int} (h : IntsAt w ad l) (p : Addr) (v : Value) (hp : ∀ a, ad = some a → p.block ≠ a.block) : IntsAt (w.setCell p v) ad l := by
  intro j hj
  obtain ⟨b, off, e, hb, hc⟩ := h j hj
  exact ⟨b, off, e, by simpa using hb, by rw [World.cell?_setCell_far _ _ _ _ (by simpa using hp _ e)]; exact hc⟩
theorem slice_from (b off n cap c : Nat) (hc : c < n) (hn : n ≤ cap) (W : World) :
    (Instr.sliceAt 35 (.slice (some ⟨b, off, none⟩) n cap) (some (.int .i64 c)) none none).run Try.prog W = .ok (.slice (some ⟨b, off + c, none⟩) (n - c) (cap - c)) W := by
  have h1 : (c : Int) ≤ n := by omega
  have h2 : ¬ (cap = c) := by omega
  go_simp
def gonR (w w' : World) (e : Ending) (ad : Option Addr) (W : Wd) : Prop :=
  ∃ ad' cap', e = .returned (wdV W.low ad' W.seen.length cap') ∧ IntsAt w' ad' W.seen ∧ W.seen.length ≤ cap' ∧ (ad' = none → cap' = 0) ∧ (∀ a', ad' = some a' → ∃ a, ad = some a ∧ a'.block = a.block) ∧ Gr w w'
set_option maxHeartbeats 8000000 in
set_option maxRecDepth 100000 in
theorem goon_any (low : Int) (l : List Int) (ad : Option Addr) (cap : Nat) (w : World) (hL : IntsAt w ad l) (hn : l.length ≤ 1000) (hcap : l.length ≤ cap) (h0 : 0 ≤ low) (h1 : low ≤ 2000000000) (hl : ∀ n ∈ l, n ≤ 2000000000 ∧ 0 ≤ n) :
    Calls Try.prog 55 #[.int .i64 low, .slice ad l.length cap] w fun e w' => gonR w w' e ad (Wn.gon low l) := by
  have HL := Lib.hid hL
  have HB := Lib.hid hl
  clear hL hl
  go_enter Try.func55, Try.ntmps55
  go_wp2
  go_step3
  go_wp2
  go_step3
  go_wp2
  go_loopw [12] (fun i wr => ∃ (k : Nat) (x : Int), k ≤ l.length ∧ i = .int .i64 (k : Int) ∧ 0 ≤ x ∧ x ≤ 2000000000 ∧ Wn.gon low l = Wn.gon x (l.drop k) ∧ Bx2 wr (w.heap.size + 1) (.int .i64 x) (.slice none 0 0) ∧ Bx2 wr w.heap.size (.int .i64 0) (.slice none 0 0) ∧ Gr w wr) (fun i _ => l.length - (intOf i).toNat)
  case atStart => exact ⟨0, low, by omega, rfl, h0, h1, rfl, Bx2.new _ _ _ _ _ (by simp), (Bx2.new w _ _ _ _ rfl).gr (Gr.refl _).alloc, (Gr.refl w).alloc.alloc⟩
  case round =>
    obtain ⟨k, x, hk, rfl, hx0, hx1, he, hb, hr, hg⟩ := hrel
    have HG := Lib.hid hg
    have HBx := Lib.hid hb
    have HRs := Lib.hid hr
    obtain ⟨c0, c1, f0, f1, lt1⟩ := hb
    obtain ⟨r0, r1, s0, s1, lt0⟩ := hr
    clear hg
    by_cases hlt : k < l.length
    · obtain ⟨b, off, rfl, hbl, hc⟩ := HL.out k hlt
      have hc' := HG.out.keep hc
      have hn0 := HB.out l[k] (List.getElem_mem hlt)
      rw [List.drop_eq_getElem_cons hlt] at he
      have HE := Lib.hid he
      have HRw := Lib.hid (HL.out.drop k)
      rw [List.drop_eq_getElem_cons hlt] at HRw
      have hln : (l[k] :: l.drop (k + 1)).length = l.length - k := by rw [List.length_cons, List.length_drop]; omega
      have HLn := Lib.hid hln
      clear he hc hln
      generalize l[k] = n at *
      by_cases c : n = x + 1
      · have HF : Hid (Wn.gon low l = Wn.gon n (l.drop (k + 1))) := by show _ = _; rw [HE.out]; show (if n = x + 1 then _ else _) = _; rw [if_pos c]
        subst c
        have hb1 := Lib.hid (HBx.out.set0 (.int .i64 (x + 1)))
        have hr1 := Lib.hid (HRs.out.far (k := w.heap.size + 1) (by omega) 0 (.int .i64 (x + 1)))
        clear HE HRw HLn
        go_wp2
        go_roundw
        case rel => exact ⟨k + 1, x + 1, by omega, by go_num, by omega, by omega, HF.out, hb1.out, hr1.out, HG.out.set _ (by simp) _⟩
        case measure => simp [intOf]; omega
      · have HF : Hid (Wn.gon low l = ⟨x, n :: l.drop (k + 1)⟩) := by show _ = _; rw [HE.out]; show (if n = x + 1 then _ else _) = _; rw [if_neg c]
        have hsl := slice_from b off l.length cap k hlt hcap
        clear HE
        go_wp2
        rw [Exit.noGoto_ret]
        refine bodyPost_ret (v := wdV x (some ⟨b, off + k, none⟩) (l.length - k) (cap - k)) (by simp [results, Try.results55, go_sem, *]) rfl ?_
        refine ⟨some ⟨b, off + k, none⟩, cap - k, ?_, ?_, ?_, (fun e => by cases e), (fun a' e => ⟨_, rfl, by cases e; rfl⟩), ?_⟩
        · rw [HF.out]; simp only [HLn.out]
        · rw [HF.out]
          exact ((((HRw.out.gr HG.out).set _ _ (fun a e => by cases e; simp; omega)).set _ _ (fun a e => by cases e; simp; omega)).set _ _ (fun a e => by cases e; simp; omega))
        · rw [HF.out]; simp only [HLn.out]; omega
        · exact ((HG.out.set _ (by simp) _).set _ (by simp) _).set _ (by simp) _
    · have HF : Hid (Wn.gon low l = ⟨x, []⟩) := by show _ = _; rw [he, List.drop_eq_nil_of_le (by omega)]; rfl
      clear he
      go_wp2
      rw [Exit.noGoto_ret]
      refine bodyPost_ret (v := wdV x none 0 0) (by simp [results, Try.results55, go_sem, *]) rfl ?_
      refine ⟨none, 0, by rw [HF.out]; rfl, by rw [HF.out]; exact IntsAt.nil, by rw [HF.out]; simp, fun _ => rfl, (fun a' e => by cases e), ?_⟩
      exact (HG.out.set _ (by simp) _).set _ (by simp) _
end Go.Proofs.Ythfbpilfdfploaa
namespace Go.Proofs.Ythfbpilfdfploaa
open Go.ChangeShapes Go.WideShapes Go.ChangeAt Go.RowKit

set_option maxRecDepth 100000 in
theorem trod_id {H : Type} {enc : TypeId × Value → H} {W : World} {base : Nat} {sp : Nat → Bool} {held : Bool} {fuel : Nat} {a b c : Value} {x : DataW H × List MemPlace}
    (h : DataW.trod enc Try.prog W base sp held fuel 24 [a, b, c] = some x) :
    ∃ r n ad cap, ∃ L : List (Int × Int), a = .int .i64 r ∧ b = .int .i64 n ∧ c = .slice ad L.length cap ∧ HopsAt W ad L ∧ L.length ≤ 9223372036854775807 ∧ L.length ≤ cap := by
  obtain ⟨y0, y1, y2, n, _, _, t0, t1, t2⟩ := Deep.trod_struct3 Try.underlying24 h
  have k0 : Try.prog.cellsOf 3 = 1 := by kernel_rfl
  have k1 : Try.prog.cellsOf 22 = 1 := by kernel_rfl
  simp [k0, k1] at t0 t1 t2
  obtain ⟨z0, e0, _⟩ := DataW.trod_int Try.underlying3 t0
  obtain ⟨z1, e1, _⟩ := DataW.trod_int Try.underlying3 t1
  obtain ⟨ad, cap, L, e2, h1, h2, h3, h4⟩ := open_hops t2
  simp at e0 e1
  exact ⟨z0, z1, ad, cap, L, e0, e1, e2, h1, h2, h3⟩

/- what comes in as a note -/
def NtIn (W : World) (vs : List Value) (x : Nt) (ad : Option Addr) (cap : Nat) : Prop :=
  vs = [.int .i64 x.k, .int .i64 x.r, .int .i64 x.n, .slice ad x.L.length cap, .string x.d, .int .i64 x.y] ∧ HopsAt W ad x.L ∧ x.L.length ≤ 9223372036854775807 ∧ x.L.length ≤ cap ∧ x.d.size ≤ 9223372036854775807

set_option maxRecDepth 100000 in
theorem trod_note {H : Type} {enc : TypeId × Value → H} {W : World} {base : Nat} {sp : Nat → Bool} {held : Bool} {fuel : Nat} {c0 c1 c2 c3 c4 c5 : Value} {x : DataW H × List MemPlace}
    (h : DataW.trod enc Try.prog W base sp held fuel 26 [c0, c1, c2, c3, c4, c5] = some x) : ∃ x ad cap, NtIn W [c0, c1, c2, c3, c4, c5] x ad cap := by
  obtain ⟨xs, n, _, rfl, hl, hlen, hf⟩ := DataW.trod_struct Try.underlying26 h
  have k0 : Try.prog.cellsOf 3 = 1 := by kernel_rfl
  have k1 : Try.prog.cellsOf 9 = 1 := by kernel_rfl
  have k3 : Try.prog.cellsOf 24 = 3 := by kernel_rfl
  match xs, hlen with
  | [y0, y1, y2, y3], _ =>
    have t0 := hf 0 _ rfl
    have t1 := hf 1 _ rfl
    have t2 := hf 2 _ rfl
    have t3 := hf 3 _ rfl
    simp [k0, k1, k3] at t0 t1 t2 t3
    obtain ⟨z0, e0, _⟩ := DataW.trod_int Try.underlying3 t0
    obtain ⟨r, m, ad, cap, L, e1, e2, e3, h1, h2, h3⟩ := trod_id t1
    obtain ⟨z4, e4, _, r4⟩ := DataW.trod_string Try.underlying9 t2
    obtain ⟨z5, e5, _⟩ := DataW.trod_int Try.underlying3 t3
    simp at e0 e4 e5
    subst e0 e1 e2 e3 e4 e5
    unfold maxLen at r4
    exact ⟨⟨z0, r, m, L, z4, z5⟩, ad, cap, rfl, h1, h2, h3, by show z4.size ≤ _; omega⟩

set_option maxRecDepth 100000 in
theorem open_note {H : Type} {enc : TypeId × Value → H} {W : World} {base : Nat} {v : Value} {d : DataW H} {ps : List MemPlace}
    (hok : Value.okWide Try.prog W .any base 26 v) (h : DataW.Trod enc Try.prog W 0 (fun _ => true) true 26 v d ps) :
    ∃ (x : Nt) (ad : Option Addr) (cap : Nat), v = .agg #[.int .i64 x.k, .int .i64 x.r, .int .i64 x.n, .slice ad x.L.length cap, .string x.d, .int .i64 x.y] ∧ HopsAt W ad x.L ∧ x.L.length ≤ 9223372036854775807 ∧ x.L.length ≤ cap ∧ x.d.size ≤ 9223372036854775807 := by
  obtain ⟨cs, rfl, hsz⟩ := okWide_struct Try.underlying26 hok
  have hsz6 : cs.size = 6 := hsz.trans (by kernel_rfl)
  obtain ⟨l⟩ := cs
  match l, hsz6 with
  | [c0, c1, c2, c3, c4, c5], _ =>
    obtain ⟨fuel, hf⟩ := h
    obtain ⟨x, ad, cap, e, h1, h2, h3, h4⟩ := trod_note (by simpa [Value.cells] using hf)
    exact ⟨x, ad, cap, by rw [e], h1, h2, h3, h4⟩

set_option maxRecDepth 100000 in
theorem open_frame {H : Type} {enc : TypeId × Value → H} {W : World} {base : Nat} {v : Value} {d : DataW H} {ps : List MemPlace}
    (hok : Value.okWide Try.prog W .any base 28 v) (h : DataW.Trod enc Try.prog W 0 (fun _ => true) true 28 v d ps) :
    ∃ (f : Fm) (ad : Option Addr) (cap : Nat), v = .agg #[.int .i64 f.f, .int .i64 f.t, .int .i64 f.e, .int .i64 f.s, .int .i64 f.a, .int .i64 f.c, .int .i64 f.n.k, .int .i64 f.n.r, .int .i64 f.n.n, .slice ad f.n.L.length cap, .string f.n.d, .int .i64 f.n.y] ∧ HopsAt W ad f.n.L ∧ f.n.L.length ≤ 9223372036854775807 ∧ f.n.L.length ≤ cap ∧ f.n.d.size ≤ 9223372036854775807 := by
  obtain ⟨cs, rfl, hsz⟩ := okWide_struct Try.underlying28 hok
  have hsz12 : cs.size = 12 := hsz.trans (by kernel_rfl)
  obtain ⟨l⟩ := cs
  have k0 : Try.prog.cellsOf 3 = 1 := by kernel_rfl
  have k6 : Try.prog.cellsOf 26 = 6 := by kernel_rfl
  match l, hsz12 with
  | [a0, a1, a2, a3, a4, a5, c0, c1, c2, c3, c4, c5], _ =>
    obtain ⟨fuel, hf⟩ := h
    have hf' : DataW.trod enc Try.prog W 0 (fun _ => true) true fuel 28 [a0, a1, a2, a3, a4, a5, c0, c1, c2, c3, c4, c5] = some (d, ps) := by simpa [Value.cells] using hf
    obtain ⟨xs, n, _, hx, hl, hlen, hg⟩ := DataW.trod_struct Try.underlying28 hf'
    match xs, hlen with
    | [y0, y1, y2, y3, y4, y5, y6], _ =>
      have t0 := hg 0 _ rfl
      have t1 := hg 1 _ rfl
      have t2 := hg 2 _ rfl
      have t3 := hg 3 _ rfl
      have t4 := hg 4 _ rfl
      have t5 := hg 5 _ rfl
      have t6 := hg 6 _ rfl
      simp [k0, k6] at t0 t1 t2 t3 t4 t5 t6
      obtain ⟨z0, e0, _⟩ := DataW.trod_int Try.underlying3 t0
      obtain ⟨z1, e1, _⟩ := DataW.trod_int Try.underlying3 t1
      obtain ⟨z2, e2, _⟩ := DataW.trod_int Try.underlying3 t2
      obtain ⟨z3, e3, _⟩ := DataW.trod_int Try.underlying3 t3
      obtain ⟨z4, e4, _⟩ := DataW.trod_int Try.underlying3 t4
      obtain ⟨z5, e5, _⟩ := DataW.trod_int Try.underlying3 t5
      obtain ⟨x, ad, cap, e, h1, h2, h3, h4⟩ := trod_note t6
      simp at e0 e1 e2 e3 e4 e5
      subst e0 e1 e2 e3 e4 e5
      simp only [List.cons.injEq, and_true] at e
      obtain ⟨rfl, rfl, rfl, rfl, rfl, rfl⟩ := e
      exact ⟨⟨z0, z1, z2, z3, z4, z5, x⟩, ad, cap, rfl, h1, h2, h3, h4⟩
end Go.Proofs.Ythfbpilfdfploaa
