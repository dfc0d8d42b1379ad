/- Parts of these proofs, laid together. -/
import Derived.Test.YthfbpilfdfploaaGreatGE
import Derived.Test.YthfbpilfdfploaaGreatGF
import Derived.Test.YthfbpilfdfploaaGreatGA
import Derived.BigRegion
import Derived.Test.YthfbpilfdfploaaGreatGC
namespace Go.Proofs.YthfbpilfdfploaaGreat
open Go.RowKit

variable {Z : Nat → Prop}
theorem flat_set {α : Type} {f : α → List Value} {c : Nat} (hc : ∀ x, (f x).length = c) (L : List α) : ∀ (j : Nat) (h : j < L.length) (i : Nat) (_ : i < c) (y : α) (u : Value) (_ : f y = (f L[j]).set i u), (L.flatMap f).set (j * c + i) u = (L.set j y).flatMap f := by
  induction L with
  | nil => intro j h; simp at h
  | cons x t ih =>
    intro j h i hi y u e
    cases j with
    | zero =>
      rw [Nat.zero_mul, Nat.zero_add, List.flatMap_cons, List.set_append_left _ _ (by rw [hc]; exact hi), List.set_cons_zero, List.flatMap_cons, e]; rfl
    | succ j =>
      rw [List.flatMap_cons, Nat.add_mul, Nat.one_mul, List.set_append_right _ _ (by rw [hc]; omega), hc, show j * c + c + i - c = j * c + i by omega, List.set_cons_succ, List.flatMap_cons, ih j (by simpa using h) i hi y u e]
theorem own_form3 {w : World} {base : Nat} {e : TypeId} {size n : Nat} {v : Value} {xs : List Value} (h : w.ownsRow base e size v n xs) (hn : 0 < n) : ∃ g cap, v = .slice (some ⟨g, 0, none⟩) n cap ∧ base ≤ g ∧ g < w.heap.size ∧ n ≤ cap := by
  have hlt := h.lt
  obtain ⟨_, ⟨rfl, h0⟩ | ⟨g, cap, cur, rfl, hx⟩⟩ := h
  · omega
  · exact ⟨g, cap, rfl, (hlt g rfl).1, (hlt g rfl).2, hx.2.2.1⟩
theorem own_cell3 {w : World} {base : Nat} {e : TypeId} {size n cap g : Nat} {xs : List Value} (h : w.ownsRow base e size (.slice (some ⟨g, 0, none⟩) n cap) n xs) {j : Nat} {u : Value} (hu : xs[j]? = some u) : w.cell? ⟨g, j, none⟩ = some u ∧ w.frozen? ⟨g, j, none⟩ = false := by
  have h1 := h.cells (g := g) rfl j u hu
  rw [Addr.add_lit, Nat.zero_add] at h1
  refine ⟨h1, ?_⟩
  obtain ⟨_, ⟨e, _⟩ | ⟨g', cap', cur, e, _, hh, _⟩⟩ := h
  · cases e
  · cases e; simp [World.frozen?, hh]
theorem grown_set3 (w : World) (p : Addr) (u : Value) : w.grownBy (w.setCell p u) (some p.block) :=
  ⟨rfl, rfl, rfl, by simp [World.setCell], fun k _ hk => Below.heap_setCell _ _ _ _ (fun e => hk (by rw [e]))⟩
/- one cell of an owned row is written -/
theorem Bxs.put {w : World} {base g c : Nat} {D : List Mi} (h : Bxs Z w base (.slice (some ⟨g, 0, none⟩) D.length c) D) (k : Nat) (hk : k < D.length) (x : Mi) (hm : x.m = D[k].m) (i : Nat) (hi : i < 9) (u : Value) (hu : iC x = (iC D[k]).set i u) :
    Bxs Z (w.setCell ⟨g, k * 9 + i, none⟩ u) base (.slice (some ⟨g, 0, none⟩) D.length c) (D.set k x) := by
  have hmem : ∀ y ∈ D.set k x, ∃ z ∈ D, z.m = y.m := by
    intro y hy
    rcases List.mem_or_eq_of_mem_set hy with hy | rfl
    · exact ⟨y, hy, rfl⟩
    · exact ⟨D[k], List.getElem_mem hk, hm.symm⟩
  refine ⟨?_, fun y hy => ?_, fun y hy => ?_⟩
  · have := (h.own.stored (k * 9 + i) u).1
    rw [flat_set iC_len D k hk i hi x u hu] at this
    rw [List.length_set]; exact this
  · obtain ⟨z, hz, e⟩ := hmem y hy
    have h1 := h.nt z hz
    have h2 := h.ap z hz
    rw [e] at h1 h2
    exact ⟨hops_kept h1.hp (grown_set3 w ⟨g, k * 9 + i, none⟩ u) h2, h1.hl, h1.hc, h1.hd, h1.hz⟩
  · obtain ⟨z, hz, e⟩ := hmem y hy
    have h2 := h.ap z hz
    rw [e] at h2
    exact h2
/- an item behind Due -/
def tkM (z : Int) (x : Mi) : Mi := if x.d ≤ z then ⟨x.q, z + Ox.del (Ox.more x.s), Ox.more x.s, x.m⟩ else x
theorem tkM_it (z : Int) (x : Mi) : (tkM z x).it = Ox.tick z x.it := by
  unfold tkM Ox.tick
  show (if x.d ≤ z then _ else _ : Mi).it = if x.d ≤ z then _ else _
  split <;> rfl
theorem its_tk (z : Int) (D : List Mi) : its (D.map (tkM z)) = (its D).map (Ox.tick z) := by
  unfold its
  rw [List.map_map, List.map_map]
  exact List.map_congr_left fun x _ => tkM_it z x
def part (z : Int) (D : List Mi) (k : Nat) : List Mi := (D.take k).map (tkM z) ++ D.drop k
theorem part_len (z : Int) (D : List Mi) (k : Nat) : (part z D k).length = D.length := by simp [part]; omega
theorem part_zero (z : Int) (D : List Mi) : part z D 0 = D := by simp [part]
theorem part_all (z : Int) (D : List Mi) (k : Nat) (h : D.length ≤ k) : part z D k = D.map (tkM z) := by
  unfold part
  rw [List.take_of_length_le h, List.drop_eq_nil_of_le h, List.append_nil]
theorem part_get (z : Int) (D : List Mi) (k : Nat) (h : k < D.length) : (part z D k)[k]'(by rw [part_len]; exact h) = D[k] := by
  unfold part
  rw [List.getElem_append_right (by simp; omega)]
  simp [Nat.min_eq_left (Nat.le_of_lt h)]
theorem part_succ (z : Int) (D : List Mi) (k : Nat) (h : k < D.length) : (part z D k).set k (tkM z D[k]) = part z D (k + 1) := by
  unfold part
  have hl : ((D.take k).map (tkM z)).length = k := by simp; omega
  rw [List.set_append_right _ _ (by omega), hl, Nat.sub_self, List.drop_eq_getElem_cons h, List.set_cons_zero, List.take_succ_eq_append_getElem h, List.map_append, List.append_assoc]
  rfl
theorem part_same (z : Int) (D : List Mi) (k : Nat) (h : k < D.length) (e : tkM z D[k] = D[k]) : part z D (k + 1) = part z D k := by
  rw [← part_succ z D k h, e]
  conv => lhs; rw [← part_get z D k h]
  exact List.set_getElem_self _
set_option maxHeartbeats 8000000 in
set_option maxRecDepth 100000 in
theorem sent_any (D : List Mi) (z : Int) (ad : Option Addr) (cap g : Nat) (w : World) (hZ : Frs Z w) (hD : ItsAt Z w ad D) (hn : D.length ≤ 1000) (hs : ∀ x ∈ D, x.m.x.L.length ≤ 1000 ∧ x.m.x.d.size ≤ 1000) (hsn : ∀ x ∈ its D, 0 ≤ x.s ∧ x.s ≤ 1000000) (hz : 0 ≤ z ∧ z ≤ 1000000000) (hb : w.cell? ⟨g, 0, none⟩ = some (.int .i64 z)) :
    Calls Tryz.prog 86 #[.slice ad D.length cap, .func (.func 85) #[] #[.pointer (some ⟨g, 0, none⟩)], .int .i64 z] w fun e w' => BxR Z ((its D).map (Ox.tick z)) w e w' := by
  have HP : Hid (∀ w', Gr w w' → Calls Tryz.prog 68 #[.slice ad D.length cap] w' fun e w2 => BxR Z (its D) w' e w2) := fun w' gr => copied_any D ad cap w' (hZ.gr gr) (hD.gr gr) hn hs
  have HC : Hid (∀ x w', Gr w w' → Calls Tryz.prog 85 #[Mi.v x, .pointer (some ⟨g, 0, none⟩)] w' fun e w2 => e = .returned (.bool (decide (x.d ≤ z))) ∧ Gr w' w2) := fun x w' gr => closeDue_any x z g w' (gr.keep hb)
  have HNx : Hid (∀ s w', Calls Tryz.prog 107 #[.int .i64 z, .int .i64 s] w' fun e w2 => e = .returned (.tuple #[.int .i64 (z + Ox.del s), .int .i64 0]) ∧ w2 = w') := fun s w' => by
    have := next_any z s w'
    have e1 : Bo.nextB z = true := by simp [Bo.nextB]; omega
    rw [show Bo.nextE z s = z + Ox.del s by unfold Bo.nextE; rw [if_pos e1]; rfl, show Bo.nextF z = 0 by unfold Bo.nextF; rw [if_pos e1]] at this
    exact this
  have HSn : Hid (∀ x ∈ its D, 0 ≤ x.s ∧ x.s ≤ 1000000) := hsn
  clear hD hs hsn hb
  go_enter Tryz.func86, Tryz.ntmps86
  go_wp2_with fail
  refine (HP.out _ ?_).mono ?_
  · exact (by repeat(first|exact Gr.r _|refine Gr.a ?_|refine Gr.d ?_|refine Gr.t ?_ (by assumption)))
  rintro e1 w1 ⟨a, c, E, rfl, hbx, hel, hg1⟩
  have HEl := Lib.hid hel
  have hEb : E.length ≤ 1000 := by have := congrArg List.length hel; simp [its] at this; omega
  have HB0 := Lib.hid (hbx.low (base' := w.heap.size) (by have := hg1.size; omega))
  have HG1 : Hid (Gr w w1) := (by repeat(first|exact Gr.r _|refine Gr.a ?_|refine Gr.d ?_|refine Gr.t ?_ (by assumption)))
  have HSe : Hid (∀ x ∈ E, 0 ≤ x.s ∧ x.s ≤ 1000000) := fun x hx => HSn.out x.it (by rw [← HEl.out]; exact List.mem_map.2 ⟨x, hx, rfl⟩)
  clear hbx hel hg1 HP HSn
  go_wp2
  go_loopw [14] (fun s14 wr => ∃ k : Nat, s14 = .int .i64 k ∧ k ≤ E.length ∧ Bxs Z wr w.heap.size (.slice a E.length c) (part z E k) ∧ Gr w wr) (fun s14 _ => E.length - (intOf s14).toNat)
  case atStart => exact ⟨0, rfl, Nat.zero_le _, by rw [part_zero]; exact HB0.out, HG1.out⟩
  case round =>
    clear HB0 HG1
    obtain ⟨k, rfl, hk, hbx, hg⟩ := hrel
    have HG := Lib.hid hg
    by_cases hlt : k < E.length
    · have hpl := part_len z E k
      have hbo := hbx.own
      rw [hpl] at hbo
      obtain ⟨gb, cap1, hv, hbg, hgl, _⟩ := own_form3 hbo (by omega)
      cases hv
      have HB := Lib.hid hbx
      have hcell : ∀ i u, i < 9 → (iC E[k])[i]? = some u → wr.cell? ⟨gb, k * 9 + i, none⟩ = some u ∧ wr.frozen? ⟨gb, k * 9 + i, none⟩ = false := by
        intro i u hi hu
        refine own_cell3 hbo ?_
        rw [flat_get iC_len (part z E k) k (by rw [hpl]; exact hlt) i hi, part_get z E k hlt]
        exact hu
      have HPut : Hid (∀ (wx : World) (x1 x2 : Mi), x1.m = x2.m → ∀ i u, i < 9 → iC x2 = (iC x1).set i u → Bxs Z wx w.heap.size (.slice (some ⟨gb, 0, none⟩) E.length c) ((part z E k).set k x1) → Bxs Z (wx.setCell ⟨gb, k * 9 + i, none⟩ u) w.heap.size (.slice (some ⟨gb, 0, none⟩) E.length c) ((part z E k).set k x2)) := by
        intro wx x1 x2 hm i u hi hu hbx
        have hlen : ((part z E k).set k x1).length = E.length := by simp [part_len]
        have := Bxs.put (D := (part z E k).set k x1) (g := gb) (c := c) (by rw [hlen]; exact hbx) k (by rw [hlen]; exact hlt) x2 (by simp [hm]) i hi u (by simpa using hu)
        rw [hlen, List.set_set] at this
        exact this
      have HB1 : Hid (Bxs Z wr w.heap.size (.slice (some ⟨gb, 0, none⟩) E.length c) ((part z E k).set k E[k])) := by
        have e : (part z E k).set k E[k] = part z E k := by
          conv => lhs; rw [← part_get z E k hlt]
          exact List.set_getElem_self _
        rw [e]; exact HB.out
      have HSu := Lib.hid (part_succ z E k hlt)
      have HSa : Hid (tkM z E[k] = E[k] → part z E (k + 1) = part z E k) := part_same z E k hlt
      have hki : (k : Int) < (E.length : Int) := by omega
      obtain ⟨r0, r1⟩ := HSe.out E[k] (List.getElem_mem hlt)
      have HX := Lib.hid (HC.out E[k])
      clear hg hbx hbo hpl HC
      generalize E[k] = x at *
      obtain ⟨d0, f0⟩ := hcell 0 _ (by omega) rfl
      obtain ⟨d1, f1⟩ := hcell 1 _ (by omega) rfl
      obtain ⟨d2, f2⟩ := hcell 2 _ (by omega) rfl
      obtain ⟨d3, f3⟩ := hcell 3 _ (by omega) rfl
      obtain ⟨d4, f4⟩ := hcell 4 _ (by omega) rfl
      obtain ⟨d5, f5⟩ := hcell 5 _ (by omega) rfl
      obtain ⟨d6, f6⟩ := hcell 6 _ (by omega) rfl
      obtain ⟨d7, f7⟩ := hcell 7 _ (by omega) rfl
      obtain ⟨d8, f8⟩ := hcell 8 _ (by omega) rfl
      rw [Nat.add_zero] at d0 f0
      clear hcell f0 f3 f4 f5 f6 f7 f8
      by_cases hle : x.d ≤ z
      · have HTk : Hid (tkM z x = ⟨x.q, z + Ox.del (Ox.more x.s), Ox.more x.s, x.m⟩) := by show _ = _; unfold tkM; rw [if_pos hle]
        rw [decide_eq_true hle] at HX
        rw [HTk.out] at HSu
        have HMo : Hid (Ox.more x.s = if x.s < 1000000 then x.s + 1 else x.s) := rfl
        clear hle HSa HTk HB
        obtain ⟨q, dd, s, ⟨⟨k0, r, n, L, dt, y⟩, ax, cx⟩⟩ := x
        dsimp only [Mn.v, Mi.v] at *
        obtain ⟨s', hs'⟩ : ∃ s', s' = Ox.more s := ⟨_, rfl⟩
        rw [← hs'] at HSu HMo
        have hN := HNx.out s'
        have hP1 := fun wx => HPut.out wx ⟨q, dd, s, ⟨⟨k0, r, n, L, dt, y⟩, ax, cx⟩⟩ ⟨q, dd, s', ⟨⟨k0, r, n, L, dt, y⟩, ax, cx⟩⟩ rfl 2 (.int .i64 s') (by omega) rfl
        have hP2 := fun wx => HPut.out wx ⟨q, dd, s', ⟨⟨k0, r, n, L, dt, y⟩, ax, cx⟩⟩ ⟨q, z + Ox.del s', s', ⟨⟨k0, r, n, L, dt, y⟩, ax, cx⟩⟩ rfl 1 (.int .i64 (z + Ox.del s')) (by omega) rfl
        have HP1 := Lib.hid hP1
        have HP2 := Lib.hid hP2
        have HN2 := Lib.hid hN
        clear hP1 hP2 hN HPut HNx hs'
        generalize Ox.del s' = ds at *
        go_wp2_with fail
        refine (HX.out _ (HG.out.trans (by repeat(first|exact Gr.r _|refine Gr.a ?_|refine Gr.d ?_|refine Gr.t ?_ (by assumption))))).mono ?_
        rintro e1 w1 ⟨rfl, hg1⟩
        have g3 : Gr wr w1 := (Gr.refl wr).alloc.trans hg1
        have B1 := (Cs.new wr [.int .i64 q, .int .i64 dd, .int .i64 s, .int .i64 k0, .int .i64 r, .int .i64 n, .slice ax L.length cx, .string dt, .int .i64 y] 73 _ rfl).gr hg1
        have b2 := B1.at_ 2 _ rfl
        have bl := B1.lt
        have d2 := g3.keep d2
        have d1 := g3.keep d1
        have f1 := g3.keepF hgl f1
        have f2 := g3.keepF hgl f2
        have hgl1 : gb < w1.heap.size := Nat.lt_of_lt_of_le hgl g3.size
        have hne : gb ≠ wr.heap.size := by omega
        have HB2 := Lib.hid (HP1.out w1 (HB1.out.gr g3))
        have HG2 := Lib.hid (HG.out.trans g3)
        clear HX hg1 g3 d0 d3 d4 d5 d6 d7 d8 B1 HB1
        have hmn : min (s + 1) 1000000 = s' := by
          have := HMo.out
          rw [this]
          split <;> omega
        clear HMo
        go_wp2_with fail
        refine (HN2.out _).mono ?_
        rintro e2 w2 ⟨rfl, hw2⟩; obtain rfl := hw2.symm
        go_wp2
        go_roundw
        case rel => exact ⟨k + 1, by go_num, by omega, by rw [← HSu.out]; exact HP2.out _ HB2.out, (HG2.out.set _ (by simp; omega) _).set _ (by simp; omega) _⟩
        case measure => simp [intOf]; omega
      · have HTk : Hid (tkM z x = x) := by show _ = _; unfold tkM; rw [if_neg hle]
        rw [decide_eq_false hle] at HX
        have HSe2 := Lib.hid (HSa.out HTk.out)
        clear hle HSa HTk HSu HPut HB1
        obtain ⟨q, dd, s, ⟨⟨k0, r, n, L, dt, y⟩, ax, cx⟩⟩ := x
        dsimp only [Mn.v, Mi.v] at *
        go_wp2_with fail
        refine (HX.out _ (HG.out.trans (by repeat(first|exact Gr.r _|refine Gr.a ?_|refine Gr.d ?_|refine Gr.t ?_ (by assumption))))).mono ?_
        rintro e1 w1 ⟨rfl, hg1⟩
        have g3 : Gr wr w1 := (Gr.refl wr).alloc.trans hg1
        have HB2 := Lib.hid (HB.out.gr g3)
        have HG2 := Lib.hid (HG.out.trans g3)
        clear HX hg1 g3 d0 d1 d2 d3 d4 d5 d6 d7 d8 f1 f2 HB
        go_wp2
        go_roundw
        case rel => exact ⟨k + 1, by go_num, by omega, by rw [HSe2.out]; exact HB2.out, HG2.out⟩
        case measure => simp [intOf]; omega
    · have hge : ¬ ((k : Int) < (E.length : Int)) := by omega
      have HL : Hid (its (part z E k) = (its D).map (Ox.tick z)) := by
        show _ = _
        rw [part_all z E k (by omega), its_tk, HEl.out]
      have HB := Lib.hid hbx
      have HPl := Lib.hid (part_len z E k)
      clear hbx hg
      go_wp2
      go_ret
      exact ⟨a, c, part z E k, by rw [HPl.out]; rfl, by rw [HPl.out]; exact HB.out, HL.out, HG.out⟩
end Go.Proofs.YthfbpilfdfploaaGreat
namespace Go.Proofs.YthfbpilfdfploaaGreat
open Go.RowKit

variable {Z : Nat → Prop}
theorem oMayE_ok {D : List Mi} (h : Ox.mayB okN (its D) = true) : oMayE D = 0 := by unfold oMayE; rw [if_pos h]
theorem oMayE_bad {D : List Mi} (h : Ox.mayB okN (its D) = false) : oMayE D = 2 := by unfold oMayE; rw [h]; rfl
theorem mayB_len {D : List Mi} (h : Ox.mayB okN (its D) = true) : D.length ≤ 12 := by
  have := ((Ox.mayB_iff _ _).1 h).len
  rwa [its_len] at this
theorem may_one {D : List Mi} (h : Ox.mayB okN (its D) = true) : ∀ y ∈ its D, (1 ≤ y.q ∧ y.q ≤ 1000000000) ∧ okN y.n = true ∧ (0 ≤ y.d ∧ y.d ≤ 1000000016) ∧ (0 ≤ y.s ∧ y.s ≤ 1000000) :=
  fun y hy => (Ox.one_iff _ _).1 (((Ox.mayB_iff _ _).1 h).all y hy)
theorem small_its {E : List Mi} (h : ∀ y ∈ its E, okN y.n = true) : ∀ x ∈ E, x.m.x.L.length ≤ 1000 ∧ x.m.x.d.size ≤ 1000 := by
  intro x hx
  have := h x.it (List.mem_map.2 ⟨x, hx, rfl⟩)
  obtain ⟨h1, h2⟩ := nt_small (x := x.m.x) (by rw [← okN_pk]; exact this)
  omega
theorem its_filt (D : List Mi) (f : Ox.It Nx → Bool) : its (D.filter fun x => f x.it) = (its D).filter f := by
  unfold its
  rw [List.filter_map]; rfl

set_option maxHeartbeats 4000000 in
set_option maxRecDepth 100000 in
theorem answered_any (D : List Mi) (low : Int) (ad : Option Addr) (cap : Nat) (w : World) (hZ : Frs Z w) (hD : ItsAt Z w ad D) (hc : D.length ≤ cap) (hn : D.length ≤ 9223372036854775807) :
    Calls Tryz.prog 53 #[.slice ad D.length cap, .int .i64 low] w fun e w' => BxR Z (Ox.ans okN (its D) low) w e w' := by
  have HZ := Lib.hid hZ
  clear hZ
  have HM : Hid (∀ w', Gr w w' → Calls Tryz.prog 61 #[.slice ad D.length cap] w' fun e w2 => e = .returned (.int .i64 (oMayE D)) ∧ Gr w' w2) := fun w' g => oMay_any D ad cap w' (hD.gr g) hc hn
  cases hm : Ox.mayB okN (its D) with
  | false =>
    have HF : Hid (Ox.ans okN (its D) low = its []) := by show _ = _; unfold Ox.ans; rw [hm]; rfl
    rw [oMayE_bad hm] at HM
    clear hm hD
    go_enter Tryz.func53, Tryz.ntmps53
    go_wp2_with fail
    refine (HM.out _ ?_).mono ?_
    · exact (by repeat(first|exact Gr.r _|refine Gr.a ?_|refine Gr.d ?_|refine Gr.t ?_ (by assumption)))
    rintro e1 w1 ⟨rfl, hg1⟩
    go_wp2
    go_ret
    exact ⟨none, 0, [], rfl, Bxs.nil _ _, HF.out.symm, (by repeat(first|exact Gr.r _|refine Gr.a ?_|refine Gr.d ?_|refine Gr.t ?_ (by assumption)))⟩
  | true =>
    have HF : Hid (Ox.ans okN (its D) low = its (D.filter fun x => decide (low < x.q))) := by
      show _ = _
      unfold Ox.ans
      rw [if_pos hm]
      exact (its_filt D (fun y => decide (low < y.q))).symm
    rw [oMayE_ok hm] at HM
    have hl12 := mayB_len hm
    have HO : Hid (∀ y ∈ its (D.filter fun x => decide (low < x.q)), okN y.n = true) := by
      intro y hy
      replace hy : y ∈ (its D).filter (fun y => decide (low < y.q)) := by rw [← its_filt]; exact hy
      exact (may_one hm y (List.mem_filter.1 hy).1).2.1
    have HCh : Hid (∀ w' g, Gr w w' → w'.cell? ⟨g, 0, none⟩ = some (.int .i64 low) → Calls Tryz.prog 76 #[.slice ad D.length cap, .func (.func 77) #[] #[.pointer (some ⟨g, 0, none⟩)]] w' fun e w2 => BxR Z (its (D.filter fun x => decide (low < x.q))) w' e w2) := fun w' g gr hb => chosenAns_any D low ad cap g w' (hD.gr gr) (by omega) hb
    have HLf : Hid ((D.filter fun x => decide (low < x.q)).length ≤ 12) := Nat.le_trans (List.length_filter_le _ _) hl12
    generalize (D.filter fun x => decide (low < x.q)) = F at *
    clear hm hD
    go_enter Tryz.func53, Tryz.ntmps53
    have hmf : ∀ (fn : Fn) (first cap : Array Value) (w : World), (Instr.makeFunc fn first cap).run Tryz.prog w = .ok (.func fn first cap) w := fun _ _ _ _ => rfl
    go_wp2_with fail
    refine (HM.out _ ?_).mono ?_
    · exact (by repeat(first|exact Gr.r _|refine Gr.a ?_|refine Gr.d ?_|refine Gr.t ?_ (by assumption)))
    rintro e1 w1 ⟨rfl, hg1⟩
    have HG1 : Hid (Gr w w1) := (by repeat(first|exact Gr.r _|refine Gr.a ?_|refine Gr.d ?_|refine Gr.t ?_ (by assumption)))
    have c0 : w1.cell? ⟨w.heap.size, 0, none⟩ = some (.int .i64 low) := hg1.keep (by simp)
    clear hg1 HM
    go_wp2_with fail
    refine (HCh.out _ _ HG1.out c0).mono ?_
    rintro e2 w2 ⟨a, c, E, rfl, hb, he, hg2⟩
    have HE := Lib.hid he
    have HG2 := Lib.hid (HG1.out.trans hg2)
    obtain ⟨ad2, cap2, e2, _, _, hit, _⟩ := hb.at
    cases e2
    have HIt := Lib.hid hit
    have HCp : Hid (∀ w', Gr w2 w' → Calls Tryz.prog 68 #[.slice a E.length c] w' fun e w2 => BxR Z (its E) w' e w2) := fun w' g => copied_any E a c w' (HZ.out.gr (HG2.out.trans g)) (HIt.out.gr g) (by have := congrArg List.length HE.out; have := HLf.out; simp [its] at *; omega) (small_its (by rw [HE.out]; exact HO.out))
    clear he hg2 hit hb c0 HG1 HCh
    go_wp2_with fail
    refine (HCp.out _ ?_).mono ?_
    · exact (by repeat(first|exact Gr.r _|refine Gr.a ?_|refine Gr.d ?_|refine Gr.t ?_ (by assumption)))
    rintro e3 w3 ⟨a3, c3, E3, rfl, hb3, he3, hg3⟩
    have HE3 := Lib.hid he3
    have HB3 := Lib.hid (hb3.low (base' := w.heap.size) HG2.out.size)
    have HG3 := Lib.hid (HG2.out.trans hg3)
    clear he3 hb3 hg3
    go_wp2
    go_ret
    exact ⟨a3, c3, E3, rfl, HB3.out, by rw [HE3.out, HE.out, HF.out], HG3.out⟩

theorem oHold1 {a b : World} (g : Gr a b) {q0 : Addr} {v0 : Value} (h0 : a.cell? q0 = some v0) : Gr a b ∧ b.cell? q0 = some v0 := ⟨g, g.keep h0⟩
/- what Due answers -/
def DuR (Z : Nat → Prop) (l1 l2 : List (Ox.It Nx)) (w : World) (e : Ending) (w' : World) : Prop :=
  ∃ a c E a2 c2 E2, e = .returned (.tuple #[.slice a E.length c, .slice a2 E2.length c2]) ∧ Bxs Z w' w.heap.size (.slice a E.length c) E ∧ Bxs Z w' w.heap.size (.slice a2 E2.length c2) E2 ∧ its E = l1 ∧ its E2 = l2 ∧ Gr w w'
set_option maxHeartbeats 8000000 in
set_option maxRecDepth 100000 in
theorem due_any (D : List Mi) (now : Int) (ad : Option Addr) (cap : Nat) (w : World) (hZ : Frs Z w) (hD : ItsAt Z w ad D) (hc : D.length ≤ cap) (hn : D.length ≤ 9223372036854775807) :
    Calls Tryz.prog 59 #[.slice ad D.length cap, .int .i64 now] w fun e w' => DuR Z (Ox.dueL okN (its D) now) (Ox.dueD okN (its D) now) w e w' := by
  have HZ := Lib.hid hZ
  clear hZ
  have HM : Hid (∀ w', Gr w w' → Calls Tryz.prog 61 #[.slice ad D.length cap] w' fun e w2 => e = .returned (.int .i64 (oMayE D)) ∧ Gr w' w2) := fun w' g => oMay_any D ad cap w' (hD.gr g) hc hn
  have HT : Hid (∀ w', Calls Tryz.prog 67 #[.int .i64 now] w' fun e w2 => e = .returned (.bool (Ox.tmB now)) ∧ w2 = w') := fun w' => isTime_any now w'
  cases hm : Ox.mayB okN (its D) with
  | false =>
    have HF : Hid (Ox.dueL okN (its D) now = its [] ∧ Ox.dueD okN (its D) now = its []) := by
      constructor
      · unfold Ox.dueL; rw [hm]; rfl
      · unfold Ox.dueD; rw [hm]; rfl
    rw [oMayE_bad hm] at HM
    clear hm hD
    go_enter Tryz.func59, Tryz.ntmps59
    go_wp2_with fail
    refine (HM.out _ ?_).mono ?_
    · exact (by repeat(first|exact Gr.r _|refine Gr.a ?_|refine Gr.d ?_|refine Gr.t ?_ (by assumption)))
    rintro e1 w1 ⟨rfl, hg1⟩
    have c0 : w1.cell? ⟨w.heap.size, 0, none⟩ = some (.int .i64 now) := hg1.keep (by simp)
    go_wp2
    go_ret2
    exact ⟨none, 0, [], none, 0, [], rfl, Bxs.nil _ _, Bxs.nil _ _, HF.out.1.symm, HF.out.2.symm, (by repeat(first|exact Gr.r _|refine Gr.a ?_|refine Gr.d ?_|refine Gr.t ?_ (by assumption)))⟩
  | true =>
    rw [oMayE_ok hm] at HM
    cases ht : Ox.tmB now with
    | false =>
      have HF : Hid (Ox.dueL okN (its D) now = its [] ∧ Ox.dueD okN (its D) now = its []) := by
        constructor
        · unfold Ox.dueL; rw [hm, ht]; rfl
        · unfold Ox.dueD; rw [hm, ht]; rfl
      rw [ht] at HT
      clear hm hD ht
      go_enter Tryz.func59, Tryz.ntmps59
      go_wp2_with fail
      refine (HM.out _ ?_).mono ?_
      · exact (by repeat(first|exact Gr.r _|refine Gr.a ?_|refine Gr.d ?_|refine Gr.t ?_ (by assumption)))
      rintro e1 w1 ⟨rfl, hg1⟩
      have c0 : w1.cell? ⟨w.heap.size, 0, none⟩ = some (.int .i64 now) := hg1.keep (by simp)
      go_wp2_with fail
      refine (HT.out _).mono ?_
      rintro e2 w2 ⟨rfl, hw2⟩; obtain rfl := hw2.symm
      go_wp2
      go_ret2
      exact ⟨none, 0, [], none, 0, [], rfl, Bxs.nil _ _, Bxs.nil _ _, HF.out.1.symm, HF.out.2.symm, (by repeat(first|exact Gr.r _|refine Gr.a ?_|refine Gr.d ?_|refine Gr.t ?_ (by assumption)))⟩
    | true =>
      have htn := of_decide_eq_true ht
      have HF1 : Hid (Ox.dueL okN (its D) now = (its D).map (Ox.tick now)) := by show _ = _; unfold Ox.dueL; rw [if_pos ⟨hm, ht⟩]
      have HF2 : Hid (Ox.dueD okN (its D) now = (its (D.filter fun x => decide (x.d ≤ now))).map (Ox.tick now)) := by
        show _ = _
        unfold Ox.dueD
        rw [if_pos ⟨hm, ht⟩]
        exact congrArg _ (its_filt D (fun y => decide (y.d ≤ now))).symm
      rw [ht] at HT
      have hl12 := mayB_len hm
      have HO : Hid (∀ y ∈ its (D.filter fun x => decide (x.d ≤ now)), okN y.n = true ∧ 0 ≤ y.s ∧ y.s ≤ 1000000) := by
        intro y hy
        replace hy : y ∈ (its D).filter (fun y => decide (y.d ≤ now)) := by rw [← its_filt]; exact hy
        have := may_one hm y (List.mem_filter.1 hy).1
        exact ⟨this.2.1, this.2.2.2⟩
      have HA : Hid (∀ w' g, Gr w w' → w'.cell? ⟨g, 0, none⟩ = some (.int .i64 now) → Calls Tryz.prog 86 #[.slice ad D.length cap, .func (.func 85) #[] #[.pointer (some ⟨g, 0, none⟩)], .int .i64 now] w' fun e w2 => BxR Z ((its D).map (Ox.tick now)) w' e w2) := fun w' g gr hb => sent_any D now ad cap g w' (HZ.out.gr gr) (hD.gr gr) (by omega) (small_its (fun y hy => (may_one hm y hy).2.1)) (fun y hy => (may_one hm y hy).2.2.2) htn hb
      have HB : Hid (∀ w' g, Gr w w' → w'.cell? ⟨g, 0, none⟩ = some (.int .i64 now) → Calls Tryz.prog 76 #[.slice ad D.length cap, .func (.func 85) #[] #[.pointer (some ⟨g, 0, none⟩)]] w' fun e w2 => BxR Z (its (D.filter fun x => decide (x.d ≤ now))) w' e w2) := fun w' g gr hb => chosenDue_any D now ad cap g w' (hD.gr gr) (by omega) hb
      have HLf : Hid ((D.filter fun x => decide (x.d ≤ now)).length ≤ 12) := Nat.le_trans (List.length_filter_le _ _) hl12
      generalize (D.filter fun x => decide (x.d ≤ now)) = F at *
      have HCs : Hid (∀ E base a c w1 w' g, Bxs Z w1 base (.slice a E.length c) E → its E = its F → Gr w1 w' → Gr w w' → w'.cell? ⟨g, 0, none⟩ = some (.int .i64 now) → Calls Tryz.prog 86 #[.slice a E.length c, .func (.func 85) #[] #[.pointer (some ⟨g, 0, none⟩)], .int .i64 now] w' fun e w2 => BxR Z ((its F).map (Ox.tick now)) w' e w2) := by
        intro E base a c w1 w' g hb he gr grw hc0
        obtain ⟨ad2, cap2, e2, _, _, hit, _⟩ := hb.at
        cases e2
        rw [← he]
        refine sent_any E now a c g w' (HZ.out.gr grw) (hit.gr gr) ?_ (small_its (by rw [he]; exact fun y hy => (HO.out y hy).1)) (by rw [he]; exact fun y hy => (HO.out y hy).2) htn hc0
        have h1 := congrArg List.length he
        have h2 := HLf.out
        rw [its_len, its_len] at h1
        omega
      clear hm hD ht htn HO HLf
      go_enter Tryz.func59, Tryz.ntmps59
      have hmf : ∀ (fn : Fn) (first cap : Array Value) (w : World), (Instr.makeFunc fn first cap).run Tryz.prog w = .ok (.func fn first cap) w := fun _ _ _ _ => rfl
      go_wp2_with fail
      refine (HM.out _ ?_).mono ?_
      · exact (by repeat(first|exact Gr.r _|refine Gr.a ?_|refine Gr.d ?_|refine Gr.t ?_ (by assumption)))
      rintro e1 w1 ⟨rfl, hg1⟩
      have c0 : w1.cell? ⟨w.heap.size, 0, none⟩ = some (.int .i64 now) := hg1.keep (by simp)
      have HG1 : Hid (Gr w w1) := (by repeat(first|exact Gr.r _|refine Gr.a ?_|refine Gr.d ?_|refine Gr.t ?_ (by assumption)))
      clear hg1 HM
      go_wp2_with fail
      refine (HT.out _).mono ?_
      rintro e2 w2 ⟨rfl, hw2⟩; obtain rfl := hw2.symm
      go_wp2_with fail
      refine wp_region_held_drew (S := (fun w' => Gr w1 w' ∧ w'.cell? ⟨w.heap.size, 0, none⟩ = some (.int .i64 now))) (by kernel_rfl) (by exact oHold1 (by repeat(first|exact Gr.r _|refine Gr.a ?_|refine Gr.d ?_|refine Gr.t ?_ (by assumption))) c0) (fun hHeld => ?_)
      refine ty 0 16 hHeld ?_
      refine ty 1 17 hHeld ?_
      refine ty 2 18 hHeld ?_
      refine ty 4 20 hHeld ?_
      refine ty 5 21 hHeld ?_
      refine ty 7 23 hHeld ?_
      refine ty 8 24 hHeld ?_
      refine wpAnyH_ready (rs := [3]) (by kernel_rfl) (by simp) (AllReadyH.cons rfl (fun K hK => ?_) AllReadyH.nil)
      go_simp
      (go_at_call 86; refine (HA.out _ _ (HG1.out.trans hHeld.1) hHeld.2).mono ?_; rintro e3 w3 ⟨a, c, E, rfl, hb, he, hg3⟩)
      (try go_wp2_with fail)
      refine hK.out _ _ (by exact oHold1 (by repeat(first|exact Gr.r _|refine Gr.a ?_|refine Gr.d ?_|refine Gr.t ?_ (by assumption))) c0) (fun hHeldN => ?_)
      clear hHeld hK K
      have hHeld := hHeldN
      clear hHeldN
      have k3 := hHeld.1
      refine wpAnyH_ready (rs := [6]) (by kernel_rfl) (by simp) (AllReadyH.cons rfl (fun K hK => ?_) AllReadyH.nil)
      go_simp
      (go_at_call 76; refine (HB.out _ _ (HG1.out.trans hHeld.1) hHeld.2).mono ?_; rintro e4 w4 ⟨a4, c4, E4, rfl, hb4, he4, hg4⟩)
      (try go_wp2_with fail)
      refine hK.out _ _ (by exact oHold1 (by repeat(first|exact Gr.r _|refine Gr.a ?_|refine Gr.d ?_|refine Gr.t ?_ (by assumption))) c0) (fun hHeldN => ?_)
      clear hHeld hK K
      have hHeld := hHeldN
      clear hHeldN
      have k4 := hHeld.1
      refine wpAnyH_ready (rs := [9]) (by kernel_rfl) (by simp) (AllReadyH.cons rfl (fun K hK => ?_) AllReadyH.nil)
      go_simp
      (go_at_call 86; refine (HCs.out _ _ _ _ _ _ _ hb4 he4 (Gr.refl _) (HG1.out.trans hHeld.1) hHeld.2).mono ?_; rintro e5 w5 ⟨a5, c5, E5, rfl, hb5, he5, hg5⟩)
      (try go_wp2_with fail)
      refine hK.out _ _ (by exact oHold1 (by repeat(first|exact Gr.r _|refine Gr.a ?_|refine Gr.d ?_|refine Gr.t ?_ (by assumption))) c0) (fun hHeldN => ?_)
      clear hHeld hK K
      have hHeld := hHeldN
      clear hHeldN
      refine ty 10 4 hHeld ?_
      refine ty 11 5 hHeld ?_
      refine wpAnyH_done (by kernel_rfl) ?_ _
      have q1 := Lib.hid (((hb.gr hg4).gr hg5).low (base' := w.heap.size) (by have := HG1.out.size; have := (Gr.refl w1).drew.size; omega))
      have q2 := Lib.hid (hb5.low (base' := w.heap.size) (by have := HG1.out.size; have := k4.size; omega))
      have q3 := Lib.hid he
      have q4 := Lib.hid he5
      have q5 := Lib.hid (HG1.out.trans hHeld.1)
      clear hb hb4 hb5 he he4 he5 HA HB HCs HT
      go_wp2
      go_ret2
      exact ⟨a, c, E, a5, c5, E5, rfl, q1.out, q2.out, by rw [q3.out, HF1.out], by rw [q4.out, HF2.out], q5.out⟩
end Go.Proofs.YthfbpilfdfploaaGreat
namespace Go.Proofs.YthfbpilfdfploaaGreat
open Go.RowKit

variable {Z : Nat → Prop}
theorem num_snoc (now : Int) (x : Ox.It Nx) : ∀ (l : List (Ox.It Nx)) (k : Int), Ox.num now k (l ++ [x]) = Ox.num now k l ++ [⟨k + l.length, now, 0, x.n⟩]
  | [], k => by simp [Ox.num]
  | y :: r, k => by
    rw [List.cons_append, Ox.num, num_snoc now x r (k + 1), Ox.num, List.cons_append, List.length_cons, show k + 1 + (r.length : Int) = k + ((r.length + 1 : Nat) : Int) by omega]
theorem num_take_succ (now : Int) (D : List Mi) (k : Nat) (h : k < D.length) : Ox.num now 1 ((its D).take (k + 1)) = Ox.num now 1 ((its D).take k) ++ [⟨1 + (k : Int), now, 0, pk D[k].m.x⟩] := by
  rw [its_take_succ D k h, num_snoc]
  have : ((its D).take k).length = k := by rw [List.length_take, its_len]; omega
  rw [this]; rfl

set_option maxHeartbeats 8000000 in
set_option maxRecDepth 100000 in
theorem anew_any (D : List Mi) (now : Int) (ad : Option Addr) (cap : Nat) (w : World) (hZ : Frs Z w) (hD : ItsAt Z w ad D) (hc : D.length ≤ cap) (hn : D.length ≤ 9223372036854775807) :
    Calls Tryz.prog 75 #[.slice ad D.length cap, .int .i64 now] w fun e w' => BxR Z (Ox.anew okN (its D) now) w e w' := by
  obtain ⟨i0, hi0, hz0, hz1, hz2⟩ := info_parts infoItem
  have HM : Hid (∀ w', Gr w w' → Calls Tryz.prog 61 #[.slice ad D.length cap] w' fun e w2 => e = .returned (.int .i64 (oMayE D)) ∧ Gr w' w2) := fun w' g => oMay_any D ad cap w' (hD.gr g) hc hn
  have HT : Hid (∀ w', Calls Tryz.prog 67 #[.int .i64 now] w' fun e w2 => e = .returned (.bool (Ox.tmB now)) ∧ w2 = w') := fun w' => isTime_any now w'
  cases hm : Ox.mayB okN (its D) with
  | false =>
    have HF : Hid (Ox.anew okN (its D) now = its []) := by show _ = _; unfold Ox.anew; rw [hm]; rfl
    rw [oMayE_bad hm] at HM
    clear hm hD
    go_enter Tryz.func75, Tryz.ntmps75
    go_wp2_with fail
    refine (HM.out _ ?_).mono ?_
    · exact (by repeat(first|exact Gr.r _|refine Gr.a ?_|refine Gr.d ?_|refine Gr.t ?_ (by assumption)))
    rintro e1 w1 ⟨rfl, hg1⟩
    go_wp2
    go_ret
    exact ⟨none, 0, [], rfl, Bxs.nil _ _, HF.out.symm, (by repeat(first|exact Gr.r _|refine Gr.a ?_|refine Gr.d ?_|refine Gr.t ?_ (by assumption)))⟩
  | true =>
    rw [oMayE_ok hm] at HM
    cases ht : Ox.tmB now with
    | false =>
      have HF : Hid (Ox.anew okN (its D) now = its []) := by show _ = _; unfold Ox.anew; rw [hm, ht]; rfl
      rw [ht] at HT
      clear hm hD ht
      go_enter Tryz.func75, Tryz.ntmps75
      go_wp2_with fail
      refine (HM.out _ ?_).mono ?_
      · exact (by repeat(first|exact Gr.r _|refine Gr.a ?_|refine Gr.d ?_|refine Gr.t ?_ (by assumption)))
      rintro e1 w1 ⟨rfl, hg1⟩
      go_wp2_with fail
      refine (HT.out _).mono ?_
      rintro e2 w2 ⟨rfl, hw2⟩; obtain rfl := hw2.symm
      go_wp2
      go_ret
      exact ⟨none, 0, [], rfl, Bxs.nil _ _, HF.out.symm, (by repeat(first|exact Gr.r _|refine Gr.a ?_|refine Gr.d ?_|refine Gr.t ?_ (by assumption)))⟩
    | true =>
      have HF : Hid (Ox.anew okN (its D) now = Ox.num now 1 (its D)) := by show _ = _; unfold Ox.anew; rw [if_pos ⟨hm, ht⟩]
      rw [ht] at HT
      have hl12 := mayB_len hm
      have hsm := small_its (fun y hy => (may_one hm y hy).2.1)
      have HC : Hid (∀ x ∈ D, ∀ q w', Gr w w' → Calls Tryz.prog 100 #[.int .i64 q, .int .i64 now, x.m.v] w' fun e w2 => ∃ a c, e = .returned (Mi.v ⟨q, now, 0, ⟨x.m.x, a, c⟩⟩) ∧ MnAt Z w2 ⟨x.m.x, a, c⟩ ∧ (∀ p, a = some p → w'.heap.size ≤ p.block) ∧ Gr w' w2) := fun x hx q w' g => fresh_any q now x.m w' (hZ.gr g) ((hD.nt x hx).gr g) (hsm x hx).1 (hsm x hx).2
      have HD := Lib.hid hD.row
      clear hm hD ht hsm hZ
      go_enter Tryz.func75, Tryz.ntmps75
      go_wp2_with fail
      refine (HM.out _ ?_).mono ?_
      · exact (by repeat(first|exact Gr.r _|refine Gr.a ?_|refine Gr.d ?_|refine Gr.t ?_ (by assumption)))
      rintro e1 w1 ⟨rfl, hg1⟩
      have HG1 : Hid (Gr w w1) := (by repeat(first|exact Gr.r _|refine Gr.a ?_|refine Gr.d ?_|refine Gr.t ?_ (by assumption)))
      clear hg1 HM
      go_wp2_with fail
      refine (HT.out _).mono ?_
      rintro e2 w2 ⟨rfl, hw2⟩; obtain rfl := hw2.symm
      go_wp2
      go_loopw [5, 18] (fun s5 s18 wr => ∃ (k : Nat) (a : Option Addr) (c : Nat) (E : List Mi), s18 = .int .i64 k ∧ s5 = .slice a E.length c ∧ k ≤ D.length ∧ E.length = k ∧ its E = Ox.num now 1 ((its D).take k) ∧ Bxs Z wr w.heap.size (.slice a E.length c) E ∧ Gr w wr) (fun _ s18 _ => D.length - (intOf s18).toNat)
      case atStart => exact ⟨0, none, 0, [], rfl, rfl, Nat.zero_le _, rfl, by simp [its, Ox.num], Bxs.nil _ _, HG1.out⟩
      case round =>
        clear HG1
        obtain ⟨k, a, c, E, rfl, rfl, hk, hE, hEl, hbx, hg⟩ := hrel
        have HG := Lib.hid hg
        have HB := Lib.hid hbx
        have HEl := Lib.hid hEl
        have HEk : Hid (E.length = k) := hE
        have hEb : E.length ≤ 1000 := by omega
        clear hbx hEl hE
        by_cases hlt : k < D.length
        · obtain ⟨b, off, rfl, hbl, d0, d1, d2, d3, d4, d5, d6, d7, d8⟩ := ItsRow.at HD.out k hlt
          have d0 := hg.keep d0
          have d1 := hg.keep d1
          have d2 := hg.keep d2
          have d3 := hg.keep d3
          have d4 := hg.keep d4
          have d5 := hg.keep d5
          have d6 := hg.keep d6
          have d7 := hg.keep d7
          have d8 := hg.keep d8
          have hbw : b < wr.heap.size := Nat.lt_of_lt_of_le hbl hg.size
          have hki : (k : Int) < (D.length : Int) := by omega
          have HX := Lib.hid (HC.out D[k] (List.getElem_mem hlt) (1 + (k : Int)))
          have HT := Lib.hid (num_take_succ now D k hlt)
          clear hg
          generalize D[k] = x at *
          obtain ⟨q, dd, s, ⟨⟨k0, r, n, L, dt, y⟩, ax, cx⟩⟩ := x
          dsimp only [Mn.v, Mi.v] at *
          go_wp2_with fail
          refine (HX.out _ (HG.out.trans (by repeat(first|exact Gr.r _|refine Gr.a ?_|refine Gr.d ?_|refine Gr.t ?_ (by assumption))))).mono ?_
          rintro e1 w3 ⟨a2, c2, rfl, hm2, hf2, hg3⟩
          have hs1 : wr.heap.size + 1 ≤ w3.heap.size := by have := hg3.size; simpa using this
          have g3 : Gr wr w3 := (Gr.refl wr).alloc.trans hg3
          have HOw := Lib.hid ((HB.out.gr g3).gr ((Gr.refl w3).alloc (o := .cells #[.int .i64 (1 + (k : Int)), .int .i64 now, .int .i64 0, .int .i64 k0, .int .i64 r, .int .i64 n, .slice a2 L.length c2, .string dt, .int .i64 y] 73)))
          have HM4 := Lib.hid (hm2.gr ((Gr.refl w3).alloc (o := .cells #[.int .i64 (1 + (k : Int)), .int .i64 now, .int .i64 0, .int .i64 k0, .int .i64 r, .int .i64 n, .slice a2 L.length c2, .string dt, .int .i64 y] 73)))
          have HG4 : Hid (Gr w (w3.alloc (.cells #[.int .i64 (1 + (k : Int)), .int .i64 now, .int .i64 0, .int .i64 k0, .int .i64 r, .int .i64 n, .slice a2 L.length c2, .string dt, .int .i64 y] 73))) := (HG.out.trans g3).alloc
          have hnw := i_new w3 ⟨1 + (k : Int), now, 0, ⟨⟨k0, r, n, L, dt, y⟩, a2, c2⟩⟩ 73
          rw [show (iC ⟨1 + (k : Int), now, 0, ⟨⟨k0, r, n, L, dt, y⟩, a2, c2⟩⟩).toArray = #[.int .i64 (1 + (k : Int)), .int .i64 now, .int .i64 0, .int .i64 k0, .int .i64 r, .int .i64 n, .slice a2 L.length c2, .string dt, .int .i64 y] from rfl] at hnw
          have HNw := Lib.hid hnw
          have HAp : Hid (L ≠ [] → ∀ p, a2 = some p → (Value.slice a E.length c).ownBlock ≠ some p.block) := fun _ => ap_new HB.out (fun p e => by have := hf2 p e; simp at this; omega)
          have hlen4 : w.heap.size ≤ w3.heap.size := by have := HG.out.size; omega
          clear hm2 hf2 hg3 g3 hnw HX d0 d1 d2 d3 d4 d5 d6 d7 d8
          have hm1 : E.length + 1 ≤ maxLen := by unfold maxLen; omega
          go_wp2_with (first
            | (at_builtin; refine wpList_append_own_at _ rfl _ _ 53 rfl w.heap.size 73 i0 (.agg #[.int .i64 0, .int .i64 0, .int .i64 0, .int .i64 0, .int .i64 0, .int .i64 0, .slice none 0 0, .string ⟨#[]⟩, .int .i64 0]) 9 96 Tryz.underlying53 hi0 hz0 hz1 hz2 rfl (by decide) _ _ _ rfl HOw.out.own ⟨w3.heap.size, 0, none⟩ 1 1 ([(⟨1 + (k : Int), now, 0, ⟨⟨k0, r, n, L, dt, y⟩, a2, c2⟩⟩ : Mi)].flatMap iC) rfl rfl HNw.out (i_one _) hm1 (by omega) (by simp; omega) ?_)
            | fail)
          intro v' w5 hown' hgrow _ hat
          have hmo := Bxs.more (x := ⟨1 + (k : Int), now, 0, ⟨⟨k0, r, n, L, dt, y⟩, a2, c2⟩⟩) HOw.out HM4.out HAp.out hown' hgrow (by simpa using hat)
          obtain ⟨a5, c5, rfl⟩ := own_slice3 hmo
          have HMo := Lib.hid hmo
          have HG5 := Lib.hid (HOw.out.grown HG4.out hgrow (Nat.le_refl _))
          have HL5 : Hid (its (E ++ [(⟨1 + (k : Int), now, 0, ⟨⟨k0, r, n, L, dt, y⟩, a2, c2⟩⟩ : Mi)]) = Ox.num now 1 ((its D).take (k + 1))) := by
            show _ = _
            rw [its_app, HEl.out, HT.out]; rfl
          clear hmo hown' hgrow hat HOw HM4 HNw HAp
          go_wp2
          go_roundw
          case rel => exact ⟨k + 1, a5, c5, E ++ [(⟨1 + (k : Int), now, 0, ⟨⟨k0, r, n, L, dt, y⟩, a2, c2⟩⟩ : Mi)], by go_num, rfl, by omega, by have := HEk.out; simp; omega, HL5.out, HMo.out, HG5.out⟩
          case measure => simp [intOf]; omega
        · have hge : ¬ ((k : Int) < (D.length : Int)) := by omega
          have HL : Hid (its E = Ox.anew okN (its D) now) := by
            show _ = _
            rw [HEl.out, HF.out, List.take_of_length_le (by rw [its_len]; omega)]
          go_wp2
          go_ret
          exact ⟨a, c, E, rfl, HB.out, HL.out, HG.out⟩

theorem next_none (f : Int) : Ox.next (its []) f = f := rfl
theorem next_last {D : List Mi} {k : Nat} (h : D.length = k + 1) (f : Int) : Ox.next (its D) f = max f (D[k].q + 1) := by
  unfold Ox.next
  have e : (its D).getLast? = some D[k].it := by
    have e1 := its_get? D k (by omega)
    rw [List.getLast?_eq_getElem?, its_len, show D.length - 1 = k by omega]
    exact e1
  rw [e]
  show (if f ≤ D[k].q then D[k].q + 1 else f) = _
  split <;> omega
set_option maxHeartbeats 2000000 in
set_option maxRecDepth 100000 in
theorem nextNumber_any (D : List Mi) (f : Int) (ad : Option Addr) (cap : Nat) (w : World) (hD : ItsRow w ad D) (hn : D.length ≤ 1000) (hq : ∀ x ∈ D, 1 ≤ x.q ∧ x.q ≤ 1000000000) :
    Calls Tryz.prog 99 #[.slice ad D.length cap, .int .i64 f] w fun e w' => e = .returned (.int .i64 (Ox.next (its D) f)) ∧ Gr w w' := by
  by_cases h0 : D.length = 0
  · have hd : D = [] := List.length_eq_zero_iff.1 h0
    have HF : Hid (Ox.next (its D) f = f) := by rw [hd]; exact next_none f
    generalize Ox.next (its D) f = R at *
    generalize D.length = ll at *
    subst h0
    clear hD hq hd
    go_enter Tryz.func99, Tryz.ntmps99
    go_wp2
    go_ret
    exact ⟨by rw [HF.out]; rfl, (by repeat(first|exact Gr.r _|refine Gr.a ?_|refine Gr.d ?_|refine Gr.t ?_ (by assumption)))⟩
  · obtain ⟨k, hk⟩ : ∃ k, D.length = k + 1 := ⟨D.length - 1, by omega⟩
    have hmx := next_last hk f
    obtain ⟨b, off, rfl, hbl, d0, hrest⟩ := ItsRow.at hD k (by omega)
    clear hrest
    have hqk := hq D[k] (List.getElem_mem (by omega))
    generalize D[k].q = q at *
    generalize Ox.next (its D) f = R at *
    have hz0 : ((D.length : Int) == 0) = false := by rw [beq_eq_false_iff_ne]; omega
    have hz3 : IntKind.i64.wrap (k : Int) = (k : Int) := by rw [IntKind.wrap_i64]; omega
    have hz4 : (D.length : Int) - 1 = (k : Int) := by omega
    have hz5 : (k : Int) < (D.length : Int) := by omega
    generalize D.length = ll at *
    clear hD hq h0
    replace hmx := hmx.symm
    have hk0 : (0 : Int) ≤ (k : Int) := by omega
    go_enter Tryz.func99, Tryz.ntmps99
    go_wp2
    go_ret
    exact ⟨by simp [go_sem, *], (by repeat(first|exact Gr.r _|refine Gr.a ?_|refine Gr.d ?_|refine Gr.t ?_ (by assumption)))⟩

set_option maxHeartbeats 2000000 in
set_option maxRecDepth 100000 in
theorem hasO_any (D : List Mi) (m : Mn) (ad : Option Addr) (cap : Nat) (w : World) (hD : ItsAt Z w ad D) (hc : D.length ≤ cap) (hn : D.length ≤ 9223372036854775807) (hm : MnAt Z w m) :
    Calls Tryz.prog 42 #[.slice ad D.length cap, m.v] w fun e w' => e = .returned (.bool (Ox.hasB okN (its D) (pk m.x))) ∧ Gr w w' := by
  have HM : Hid (∀ w', Gr w w' → Calls Tryz.prog 61 #[.slice ad D.length cap] w' fun e w2 => e = .returned (.int .i64 (oMayE D)) ∧ Gr w' w2) := fun w' g => oMay_any D ad cap w' (hD.gr g) hc hn
  have HH : Hid (∀ w', Gr w w' → Calls Tryz.prog 62 #[.slice ad D.length cap, m.v] w' fun e w2 => e = .returned (.bool (Ox.among (its D) (pk m.x))) ∧ Gr w' w2) := fun w' g => has_any D m ad cap w' (hD.gr g) hn (hm.gr g)
  have HE : Hid (Ox.hasB okN (its D) (pk m.x) = (Ox.mayB okN (its D) && Ox.among (its D) (pk m.x))) := rfl
  generalize Ox.hasB okN (its D) (pk m.x) = R at *
  generalize Ox.among (its D) (pk m.x) = A at *
  cases hmay : Ox.mayB okN (its D) with
  | false =>
    rw [oMayE_bad hmay] at HM
    rw [hmay] at HE
    clear hmay hD hm
    obtain ⟨⟨k, r, n, L, d, y⟩, ad2, cap2⟩ := m
    dsimp only [Mn.v] at *
    go_enter Tryz.func42, Tryz.ntmps42
    go_wp2_with fail
    refine (HM.out _ ?_).mono ?_
    · exact (by repeat(first|exact Gr.r _|refine Gr.a ?_|refine Gr.d ?_|refine Gr.t ?_ (by assumption)))
    rintro e1 w1 ⟨rfl, hg1⟩
    go_wp2
    go_ret
    exact ⟨by rw [HE.out]; rfl, (by repeat(first|exact Gr.r _|refine Gr.a ?_|refine Gr.d ?_|refine Gr.t ?_ (by assumption)))⟩
  | true =>
    rw [oMayE_ok hmay] at HM
    rw [hmay, Bool.true_and] at HE
    clear hmay hD hm
    obtain ⟨⟨k, r, n, L, d, y⟩, ad2, cap2⟩ := m
    dsimp only [Mn.v] at *
    generalize L.length = ll at *
    go_enter Tryz.func42, Tryz.ntmps42
    go_wp2_with fail
    refine (HM.out _ ?_).mono ?_
    · exact (by repeat(first|exact Gr.r _|refine Gr.a ?_|refine Gr.d ?_|refine Gr.t ?_ (by assumption)))
    rintro e1 w1 ⟨rfl, hg1⟩
    have HG1 : Hid (Gr w w1) := (by repeat(first|exact Gr.r _|refine Gr.a ?_|refine Gr.d ?_|refine Gr.t ?_ (by assumption)))
    have B1 := (Cs.new w [.int .i64 k, .int .i64 r, .int .i64 n, .slice ad2 ll cap2, .string d, .int .i64 y] 36 _ rfl).gr hg1
    have c0 := B1.at_ 0 _ rfl
    have c1 := B1.at_ 1 _ rfl
    have c2 := B1.at_ 2 _ rfl
    have c3 := B1.at_ 3 _ rfl
    have c4 := B1.at_ 4 _ rfl
    have c5 := B1.at_ 5 _ rfl
    have cf0 := B1.fz 0 (by simp)
    have cf1 := B1.fz 1 (by simp)
    have cf2 := B1.fz 2 (by simp)
    have cf3 := B1.fz 3 (by simp)
    have cf4 := B1.fz 4 (by simp)
    have cf5 := B1.fz 5 (by simp)
    have clt := B1.lt
    clear hg1 B1
    go_wp2_with fail
    refine (HH.out _ HG1.out).mono ?_
    rintro e2 w2 ⟨rfl, hg2⟩
    have HG2 := Lib.hid (HG1.out.trans hg2)
    go_wp2
    go_ret
    exact ⟨by rw [HE.out]; rfl, HG2.out⟩
end Go.Proofs.YthfbpilfdfploaaGreat
namespace Go.Proofs.YthfbpilfdfploaaGreat
open Go.RowKit

def orgs (L : List (Int × Int)) : List Int := L.map (·.2)
theorem orgs_get (L : List (Int × Int)) (i j : Nat) (hj : j < i) (hi : i ≤ L.length) (o : Int) : ((orgs (L.take i)).drop j).contains o = (o == (L[j]'(by omega)).2 || ((orgs (L.take i)).drop (j + 1)).contains o) := by
  have hl : j < (orgs (L.take i)).length := by simp [orgs]; omega
  rw [List.drop_eq_getElem_cons hl]
  have e : (orgs (L.take i))[j] = (L[j]'(by omega)).2 := by simp [orgs]
  rw [e]; rfl

set_option maxHeartbeats 2000000 in
set_option maxRecDepth 100000 in
theorem refCheck_any (r n : Int) (L : List (Int × Int)) (ad : Option Addr) (cap : Nat) (w : World) (hL : HopsAt w ad L) (hn : L.length ≤ 9223372036854775807) :
    Calls Tryz.prog 70 #[.agg #[.int .i64 r, .int .i64 n, .slice ad L.length cap]] w fun e w' => e = .returned (.int .i64 (errB (Idn.mayB r n L))) ∧ Gr w w' := by
  have HM := Idn.may_hops r n L
  by_cases hc : 1 ≤ n ∧ n ≤ 999999 ∧ L.length ≤ 4 ∧ 0 ≤ r ∧ r < 16
  · obtain ⟨h1, h2, h3, h4, h5⟩ := hc
    have HM : Hid (Idn.mayB r n L = Idn.hopsB r [] L) := by
      show _ = _
      rw [HM]; simp [h1, h2, h3, h4, h5]
    rename_i HM0
    clear HM0
    have HL : Hid (HopsAt w ad L) := hL
    have h3' : (L.length : Int) ≤ 4 := by omega
    clear hL
    go_enter Tryz.func70, Tryz.ntmps70
    go_wp2
    go_loopw [3] (fun i wr => ∃ k : Nat, k ≤ L.length ∧ i = .int .i64 k ∧ Idn.hopsB r [] L = Idn.hopsB r (orgs (L.take k)) (L.drop k) ∧ Below (w.heap.size + 1) (w.alloc (.cells #[.int .i64 r, .int .i64 n, .slice ad L.length cap] 34)) wr) (fun i _ => L.length - (intOf i).toNat)
    case atStart => exact ⟨0, by omega, rfl, rfl, Below.refl _ _⟩
    case round =>
      obtain ⟨w0, rfl⟩ : ∃ x, x = wr := ⟨wr, rfl⟩
      obtain ⟨k, hk, rfl, hs, hb⟩ := hrel
      have hbs : w.heap.size + 1 ≤ w0.heap.size := by have := hb.size; simpa using this
      have HS : Hid (Idn.hopsB r [] L = Idn.hopsB r (orgs (L.take k)) (L.drop k)) := hs
      have hgr : Gr w w0 := ⟨((Below.refl _ _).alloc (Nat.le_refl _) _).trans (hb.mono (by omega))⟩
      have q0 : w0.cell? ⟨w.heap.size, 0, none⟩ = some (.int .i64 r) := (hb.cell (p := ⟨w.heap.size, 0, none⟩) (by simp)).trans (by simp)
      have q2 : w0.cell? ⟨w.heap.size, 2, none⟩ = some (.slice ad L.length cap) := (hb.cell (p := ⟨w.heap.size, 2, none⟩) (by simp)).trans (by simp)
      clear hs
      by_cases hlt : k < L.length
      · obtain ⟨b, off, rfl, hbl, hc, hd⟩ := HL.out k hlt
        have hc' := hgr.keep hc
        have hd' := hgr.keep hd
        have HS2 : Hid (Idn.hopsB r [] L = (decide (0 ≤ L[k].1) && decide (L[k].1 < 8) && decide (0 ≤ L[k].2) && decide (L[k].2 < 16) && !(L[k].2 == r) && !((orgs (L.take k)).contains L[k].2) && Idn.hopsB r (orgs (L.take (k + 1))) (L.drop (k + 1)))) := by
          show _ = _
          rw [HS.out, List.drop_eq_getElem_cons hlt, Idn.hopsB]
          have : orgs (L.take (k + 1)) = orgs (L.take k) ++ [L[k].2] := by unfold orgs; rw [List.take_succ_eq_append_getElem hlt, List.map_append]; rfl
          rw [this]
        have HALL : Hid (∀ j (h : j < L.length), ∀ w', Gr w w' → w'.cell? ⟨b, off + j * 2 + 1, none⟩ = some (.int .i64 L[j].2)) := by
          intro j hj w' g
          obtain ⟨b', off', e, _, _, h⟩ := HL.out j hj
          simp at e
          obtain ⟨rfl, rfl⟩ := e
          exact g.keep h
        obtain ⟨⟨p1, p2⟩, hh⟩ : ∃ h, L[k] = h := ⟨_, rfl⟩
        rw [hh] at hc' hd' HS2
        clear hc hd hh HL HS
        by_cases gc : 0 ≤ p1 ∧ p1 < 8 ∧ 0 ≤ p2 ∧ p2 < 16 ∧ p2 ≠ r
        · obtain ⟨g0, g1, g2, g3, g4⟩ := gc
          have HS3 : Hid (Idn.hopsB r [] L = (!((orgs (L.take k)).contains p2) && Idn.hopsB r (orgs (L.take (k + 1))) (L.drop (k + 1)))) := by
            show _ = _
            rw [HS2.out, show (p2 == r) = false by simpa using g4]; simp [g0, g1, g2, g3]
          have g4' : (p2 == r) = false := by simpa using g4
          clear HS2 g4
          have hwl : w.heap.size < w0.heap.size := by omega
          go_wp2
          go_loopw [5] (fun j wr => ∃ m : Nat, m ≤ k ∧ j = .int .i64 m ∧ (orgs (L.take k)).contains p2 = ((orgs (L.take k)).drop m).contains p2 ∧ Below (w0.heap.size + 1) (w0.alloc (.cells #[.int .i64 p1, .int .i64 p2] 90)) wr) (fun j _ => k - (intOf j).toNat)
          case atStart => exact ⟨0, by omega, rfl, rfl, Below.refl _ _⟩
          case round =>
            obtain ⟨m, hm, rfl, hcn, hb2⟩ := hrel
            have HCN : Hid ((orgs (L.take k)).contains p2 = ((orgs (L.take k)).drop m).contains p2) := hcn
            have hbs2 : w0.heap.size + 1 ≤ wr.heap.size := by have := hb2.size; simpa using this
            have hgr2 : Gr w0 wr := ⟨((Below.refl _ _).alloc (Nat.le_refl _) _).trans (hb2.mono (by omega))⟩
            have s0 := hgr2.keep q0
            have s2 := hgr2.keep q2
            have t1 : wr.cell? ⟨w0.heap.size, 1, none⟩ = some (.int .i64 p2) := (hb2.cell (p := ⟨w0.heap.size, 1, none⟩) (by simp)).trans (by simp)
            have hbx : Below (w.heap.size + 1) (w.alloc (.cells #[.int .i64 r, .int .i64 n, .slice (some ⟨b, off, none⟩) L.length cap] 34)) wr := (hb.alloc hbs _).trans (hb2.mono (by omega))
            have HBX : Hid (Below (w.heap.size + 1) (w.alloc (.cells #[.int .i64 r, .int .i64 n, .slice (some ⟨b, off, none⟩) L.length cap] 34)) wr) := hbx
            have HGR : Hid (Gr w wr) := hgr.trans hgr2
            clear hcn q0 q2 hc' hd' hbx hb
            by_cases hmk : m < k
            · have hx := HALL.out m (by omega) wr HGR.out
              have hml : m < L.length := by omega
              have HCN2 : Hid ((orgs (L.take k)).contains p2 = (p2 == (L[m]'hml).2 || ((orgs (L.take k)).drop (m + 1)).contains p2)) := by
                show _ = _
                rw [HCN.out, orgs_get L k m hmk (by omega)]
              obtain ⟨o, ho⟩ : ∃ o, (L[m]'hml).2 = o := ⟨_, rfl⟩
              rw [ho] at hx HCN2
              have hm1 : (m : Int) < L.length := by omega
              clear ho HALL hgr hgr2
              by_cases he : o = p2
              · subst he
                have HF : Hid (Idn.mayB r n L = false) := by
                  show _ = _
                  rw [HM.out, HS3.out, HCN2.out]; simp
                clear HS3 HCN HCN2 HM
                go_wp2
                go_region
                go_wp2
                go_ret
                exact ⟨by rw [HF.out]; rfl, HGR.out.drew⟩
              · have he' : (o == p2) = false := by simpa using he
                have HF : Hid ((orgs (L.take k)).contains p2 = ((orgs (L.take k)).drop (m + 1)).contains p2) := by
                  show _ = _
                  rw [HCN2.out, show (p2 == o) = false by simpa using fun h => he h.symm]; rfl
                clear HCN HCN2 he
                go_wp2
                go_region
                go_wp2
                go_roundw
                case rel => exact ⟨m + 1, by omega, by go_num, HF.out, hb2.drew⟩
                case measure => simp [intOf]; omega
            · have hmk' : m = k := by omega
              subst hmk'
              have HF : Hid (Idn.hopsB r [] L = Idn.hopsB r (orgs (L.take (m + 1))) (L.drop (m + 1))) := by
                show _ = _
                rw [HS3.out, HCN.out]
                simp [orgs]
              clear HALL HS3 HCN
              go_wp2
              go_roundw
              case rel => exact ⟨m + 1, by omega, by go_num, HF.out, HBX.out⟩
              case measure => simp [intOf]; omega
        · have HF : Hid (Idn.mayB r n L = false) := by
            show _ = _
            rw [HM.out, HS2.out]
            cases h : (decide (0 ≤ p1) && decide (p1 < 8) && decide (0 ≤ p2) && decide (p2 < 16) && !p2 == r) with
            | false => simp
            | true => exact absurd (by simpa [and_assoc] using h) gc
          have hwl : w.heap.size < w0.heap.size := by omega
          have hcb : ((((p1 < 0 ∨ 7 < p1) ∨ p2 < 0) ∨ 15 < p2) ∨ (p2 == r) = true) := by
            by_cases e : p2 = r
            · exact Or.inr (by simpa using e)
            · exact Or.inl (by omega)
          have HCB : Hid ((((p1 < 0 ∨ 7 < p1) ∨ p2 < 0) ∨ 15 < p2) ∨ (p2 == r) = true) := hcb
          clear HS2 gc HALL hcb
          go_wp2
          all_goals first
            | (go_ret; exact ⟨by rw [HF.out]; rfl, hgr.alloc⟩)
            | (exfalso; rename_i hx; rcases HCB.out with ((((h | h) | h) | h) | h) <;> first | omega | (rw [h] at hx; simp at hx))
      · have HF : Hid (Idn.mayB r n L = true) := by
          show _ = _
          rw [HM.out, HS.out, List.drop_eq_nil_of_le (by omega)]; rfl
        clear HS HL
        go_wp2
        go_ret
        exact ⟨by rw [HF.out]; rfl, hgr⟩
  · have HF : Hid (Idn.mayB r n L = false) := by
      show _ = _
      rw [HM]
      cases h : (decide (1 ≤ n) && decide (n ≤ 999999) && decide (L.length ≤ 4) && decide (0 ≤ r) && decide (r < 16)) with
      | false => simp
      | true => exact absurd (by simpa [and_assoc] using h) hc
    have hcb : ((((n < 1 ∨ 999999 < n) ∨ (4 : Int) < L.length) ∨ r < 0) ∨ 15 < r) := by omega
    clear hc HM hL
    go_enter Tryz.func70, Tryz.ntmps70
    go_wp2
    all_goals first
      | (go_ret; exact ⟨by rw [HF.out]; rfl, (Gr.refl _).alloc⟩)
      | (exfalso; omega)
end Go.Proofs.YthfbpilfdfploaaGreat
namespace Go.Proofs.YthfbpilfdfploaaGreat
open Go.RowKit

set_option maxHeartbeats 2000000 in
set_option maxRecDepth 100000 in
theorem refPath_any (r n : Int) (L : List (Int × Int)) (ad : Option Addr) (cap : Nat) (w : World) (hL : HopsAt w ad L) (hn : L.length ≤ 9223372036854775807) :
    Calls Tryz.prog 47 #[.agg #[.int .i64 r, .int .i64 n, .slice ad L.length cap]] w fun e w' =>
      ∃ ad2 cap2, e = .returned (.slice ad2 (pathE r n L).length cap2) ∧ (pathE r n L).length ≤ cap2 ∧ IntsAt w' ad2 (pathE r n L) ∧ Gr w w' := by
  have HC : Hid (∀ w', Gr w w' → Calls Tryz.prog 70 #[.agg #[.int .i64 r, .int .i64 n, .slice ad L.length cap]] w' fun e w2 => e = .returned (.int .i64 (errB (Idn.mayB r n L))) ∧ Gr w' w2) := fun w' g => refCheck_any r n L ad cap w' (hL.gr g) hn
  by_cases hm : Idn.mayB r n L = true
  · have h4 := may_len hm
    obtain ⟨i0, hi, hz0, hz1, hz2⟩ := info_parts infoInt
    have HL : Hid (HopsAt w ad L) := hL
    have HE : Hid (pathE r n L = Idn.path r L) := by show _ = _; unfold pathE; rw [if_pos hm]
    rw [hm, show errB true = 0 from rfl] at HC
    clear hL hm
    go_enter Tryz.func47, Tryz.ntmps47
    go_wp2_with fail
    refine (HC.out _ (by repeat(first|exact Gr.r _|refine Gr.a ?_|refine Gr.d ?_|refine Gr.t ?_ (by assumption)))).mono ?_
    rintro e1 w1 ⟨rfl, hg1⟩
    have p0 : w1.cell? ⟨w.heap.size, 0, none⟩ = some (.int .i64 r) := hg1.keep (by simp)
    have p2 : w1.cell? ⟨w.heap.size, 2, none⟩ = some (.slice ad L.length cap) := hg1.keep (by simp)
    have hs1 : w.heap.size < w1.heap.size := by have := hg1.size; simp at this; omega
    have HG1 : Hid (Gr w w1) := (by repeat(first|exact Gr.r _|refine Gr.a ?_|refine Gr.d ?_|refine Gr.t ?_ (by assumption)))
    clear hg1
    go_wp2
    go_loopw [3, 4] (fun p i wr => ∃ k : Nat, k ≤ L.length ∧ i = .int .i64 k ∧ wr.ownsRow w1.heap.size 3 1 p (k + 1) (intV (Idn.path r (L.take k))) ∧ Below w1.heap.size w1 wr)
      (fun _ i _ => L.length - (intOf i).toNat)
    case atStart => exact ⟨0, by omega, rfl, own_lit1 _ _ _ _ _ (by simp) (by simp), (Below.refl _ _).alloc (Nat.le_refl _) _⟩
    case round =>
      obtain ⟨k, hk, rfl, hown, hb⟩ := hrel
      have hbs := hb.size
      have hgr : Gr w1 wr := ⟨hb⟩
      have q2 := hgr.keep p2
      have HGR : Hid (Gr w wr) := HG1.out.trans hgr
      clear p0 p2 hgr
      by_cases hlt : k < L.length
      · obtain ⟨b, off, rfl, hbl, hc, hd⟩ := HL.out k hlt
        have hd' := HGR.out.keep hd
        have HP : Hid (intV (Idn.path r (L.take (k + 1))) = intV (Idn.path r (L.take k)) ++ [.int .i64 L[k].2]) := by
          show _ = _
          rw [path_more r L k hlt]; simp [intV]
        have hm1 : k + 1 + 1 ≤ maxLen := by unfold maxLen; omega
        obtain ⟨⟨h1, h2⟩, hh⟩ : ∃ h, L[k] = h := ⟨_, rfl⟩
        rw [hh] at hd' HP
        clear hc hd hh
        go_wp2_with (first
          | (at_builtin; refine wpList_append_own _ rfl _ _ 54 rfl w1.heap.size 3 i0 (.int .i64 0) 1 8 Tryz.underlying54 hi hz0 hz1 hz2 rfl (by decide) _ _ _ rfl (hown.alloc _) ⟨wr.heap.size, 0, none⟩ 1 1 [.int .i64 h2] rfl rfl (cell_one_at _ _ _ _ (by simp)) (by intro u hu; simp at hu; subst hu; rfl) hm1 (by omega) (by simp; omega) ?_)
          | fail)
        intro v' w5 hown' hgrow _
        go_wp2
        go_roundw
        case rel =>
          exact ⟨k + 1, by omega, by go_num, by rw [HP.out]; exact hown', (hb.alloc hbs _).grown hgrow (by simp; omega) (fun k hk => (hown.lt k hk).1)⟩
        case measure => simp [intOf]; omega
      · have hkl : k = L.length := by omega
        subst hkl
        have key : ∀ {u : Value}, wr.ownsRow w1.heap.size 3 1 u (L.length + 1) (intV (Idn.path r (L.take L.length))) → ∃ ad2 cap2, u = .slice ad2 (L.length + 1) cap2 ∧ L.length + 1 ≤ cap2 ∧ IntsAt wr ad2 (Idn.path r L) := by
          intro u h
          rw [List.take_length] at h
          have := own_ints (l := Idn.path r L) (by rw [path_len]; exact h)
          rw [path_len] at this
          exact this
        obtain ⟨ad2, cap2, rfl, hcp, hia⟩ := key hown
        have HI : Hid (IntsAt wr ad2 (Idn.path r L)) := hia
        clear hown key hia
        go_wp2
        go_ret
        rw [HE.out, path_len]
        exact ⟨ad2, cap2, rfl, hcp, HI.out, HGR.out⟩
  · have hm' : Idn.mayB r n L = false := by simpa using hm
    have HE : Hid (pathE r n L = []) := by show _ = _; unfold pathE; rw [if_neg hm]
    rw [hm', show errB false = 30 from rfl] at HC
    clear hL hm hm'
    go_enter Tryz.func47, Tryz.ntmps47
    go_wp2_with fail
    refine (HC.out _ (by repeat(first|exact Gr.r _|refine Gr.a ?_|refine Gr.d ?_|refine Gr.t ?_ (by assumption)))).mono ?_
    rintro e1 w1 ⟨rfl, hg1⟩
    go_wp2
    go_ret
    rw [HE.out]
    exact ⟨none, 0, rfl, by simp, fun j h => absurd h (by simp), (by repeat(first|exact Gr.r _|refine Gr.a ?_|refine Gr.d ?_|refine Gr.t ?_ (by assumption)))⟩

end Go.Proofs.YthfbpilfdfploaaGreat
