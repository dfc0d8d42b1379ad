/- Parts of these proofs, laid together. -/
import Derived.Test.YtojmhhmpmpbpfaaDoorGO
import Derived.Test.YtojmhhmpmpbpfaaDoorGS
import Derived.Test.YtojmhhmpmpbpfaaDoorRows
import Derived.Test.YtojmhhmpmpbpfaaDoorGA
import Derived.Test.YtojmhhmpmpbpfaaDoorGN
import Derived.ProofKit
import Derived.OpenShut
import Derived.ChangeSlices
import Derived.Deep.SlicePairs
import Derived.ShutString
import Derived.SizedLaws
import Derived.Deep.Strs
namespace Go.Proofs.YtojmhhmpmpbpfaaDoor
open Go.RowKit
open Dk (Fl zf)

set_option maxHeartbeats 1000000 in
set_option maxRecDepth 100000 in
theorem head_any (f : Fl) (w : World) (hT : Tab w) (hs : f.d.size ≤ 300000) :
    Calls Tryd.prog 42 #[.agg #[.int .i64 f.n, .string f.d, .int .i64 f.y]] w fun e w' => e = .returned (.int .i64 (Sg.hd f : Nat)) ∧ Gr w w' := by
  obtain ⟨n, d, y⟩ := f
  have HO : Hid (∀ w', Gr w w' → Calls Tryd.prog 43 #[.string d, .int .i64 0, .int .i64 3] w' fun e w2 => ∃ a b, e = .returned (.tuple #[.string a, .int .i64 b, .int .i64 ((Sg.hd ⟨n, d, y⟩ : Nat) : Int)]) ∧ Gr w' w2) := by
    intro w' g
    refine (open_any d 0 3 w' (hT.gr g) (by show d.size ≤ _; have : d.size ≤ 300000 := hs; omega)).mono ?_
    rintro e w2 ⟨rfl, h⟩
    exact ⟨_, _, rfl, h⟩
  clear hT
  generalize Sg.hd ⟨n, d, y⟩ = r at *
  simp only at *
  go_enter Tryd.func42, Tryd.ntmps42
  go_wp2_with fail
  refine (HO.out _ (by repeat (first | exact Gr.refl _ | refine Gr.alloc ?_ | refine Gr.drew ?_ | refine Gr.trans ?_ (by assumption)))).mono ?_
  rintro e w1 ⟨a, b, rfl, hg1⟩
  go_wp2
  go_ret
  exact ⟨rfl, (by repeat (first | exact Gr.refl _ | refine Gr.alloc ?_ | refine Gr.drew ?_ | refine Gr.trans ?_ (by assumption)))⟩

set_option maxHeartbeats 2000000 in
set_option maxRecDepth 100000 in
theorem lastWhole_any (L : List Fl) (ad : Option Addr) (cap : Nat) (w : World) (hT : Tab w) (hL : FsAt w ad cap L) :
    Calls Tryd.prog 41 #[.slice ad L.length cap, .func (.func 42) #[] #[]] w fun e w' => e = .returned (.tuple #[.int .i64 (Sg.lw L L.length).1, .int .i64 (Sg.lw L L.length).2]) ∧ Gr w w' := by
  have HL := Lib.hid hL.row
  have HH : Hid (∀ (f : Fl) (w' : World), f ∈ L → Gr w w' → Calls Tryd.prog 42 #[.agg #[.int .i64 f.n, .string f.d, .int .i64 f.y]] w' fun e w2 => e = .returned (.int .i64 (Sg.hd f : Nat)) ∧ Gr w' w2) := fun f w' hf g => head_any f w' (hT.gr g) (hL.rng f hf).2.2
  have hl := hL.len
  clear hL hT
  go_enter Tryd.func41, Tryd.ntmps41
  go_wp2
  go_loopw [6] (fun i wr => ∃ k : Nat, k ≤ L.length ∧ i = .int .i64 ((k : Int) - 1) ∧ Sg.lw L L.length = Sg.lw L k ∧ Gr w wr) (fun i _ => (intOf i + 1).toNat)
  case atStart => exact ⟨L.length, Nat.le_refl _, rfl, rfl, Gr.refl _⟩
  case round =>
    obtain ⟨k, hk, rfl, hlw, hg⟩ := hrel
    have HLw := Lib.hid hlw
    have HG := Lib.hid hg
    cases k with
    | zero =>
      have HN : Hid (Sg.lw L L.length = (-1, 0)) := by show _ = _; rw [HLw.out]; rfl
      clear hlw hg
      have h1 : ((0 : Nat) : Int) - 1 = -1 := by omega
      rw [h1]
      go_wp2
      go_ret2
      rw [HN.out]
      exact ⟨rfl, HG.out⟩
    | succ p =>
      obtain ⟨b, off, rfl, hb, c0, c1, c2⟩ := fl_at HL.out p (by omega)
      have c0 := hg.keep c0
      have c1 := hg.keep c1
      have c2 := hg.keep c2
      have h1 : ((p + 1 : Nat) : Int) - 1 = (p : Int) := by omega
      have hpl : (p : Int) < (L.length : Int) := by omega
      have HX := Lib.hid (fun w' g => HH.out L[p] w' (List.getElem_mem (by omega)) g)
      have he : Sg.lw L (p + 1) = if Sg.hd L[p] = 0 then ((p : Int), 0) else if Sg.hd L[p] = 10 then Sg.lw L p else (-1, 170) := by rw [Sg.lw, Sg.at_eq L p (by omega)]
      rw [he] at HLw
      clear hlw hg HH he
      generalize L[p] = f at *
      obtain ⟨fn, fd, fy⟩ := f
      simp only at *
      generalize Sg.hd ⟨fn, fd, fy⟩ = r at *
      rw [h1]
      by_cases r0 : r = 0
      · subst r0
        rw [if_pos rfl] at HLw
        go_wp2_with fail
        refine (HX.out _ (HG.out.trans (by repeat (first | exact Gr.refl _ | refine Gr.alloc ?_ | refine Gr.drew ?_ | refine Gr.trans ?_ (by assumption))))).mono ?_
        rintro e w1 ⟨rfl, hg1⟩
        go_wp2
        go_ret2
        rw [HLw.out]
        exact ⟨rfl, HG.out.trans (by repeat (first | exact Gr.refl _ | refine Gr.alloc ?_ | refine Gr.drew ?_ | refine Gr.trans ?_ (by assumption)))⟩
      · rw [if_neg r0] at HLw
        have q0 : ((r : Int) == 0) = false := by rw [beq_eq_false_iff_ne]; omega
        by_cases r1 : r = 10
        · subst r1
          rw [if_pos rfl] at HLw
          go_wp2_with fail
          refine (HX.out _ (HG.out.trans (by repeat (first | exact Gr.refl _ | refine Gr.alloc ?_ | refine Gr.drew ?_ | refine Gr.trans ?_ (by assumption))))).mono ?_
          rintro e w1 ⟨rfl, hg1⟩
          go_wp2
          go_roundw
          case rel => exact ⟨p, by omega, rfl, HLw.out, HG.out.trans (by repeat (first | exact Gr.refl _ | refine Gr.alloc ?_ | refine Gr.drew ?_ | refine Gr.trans ?_ (by assumption)))⟩
          case measure => simp [intOf]
        · rw [if_neg r1] at HLw
          have q1 : ((r : Int) == 10) = false := by rw [beq_eq_false_iff_ne]; omega
          go_wp2_with fail
          refine (HX.out _ (HG.out.trans (by repeat (first | exact Gr.refl _ | refine Gr.alloc ?_ | refine Gr.drew ?_ | refine Gr.trans ?_ (by assumption))))).mono ?_
          rintro e w1 ⟨rfl, hg1⟩
          go_wp2
          go_ret2
          rw [HLw.out]
          exact ⟨rfl, HG.out.trans (by repeat (first | exact Gr.refl _ | refine Gr.alloc ?_ | refine Gr.drew ?_ | refine Gr.trans ?_ (by assumption)))⟩

/- a row of rows of files -/
def fsV (x : Option Addr × Nat × List Fl) : List Value := [.slice x.1 x.2.2.length x.2.1]
theorem fsV_len (x : Option Addr × Nat × List Fl) : (fsV x).length = 1 := rfl
theorem fs_at {w : World} {R : List (Option Addr × Nat × List Fl)} {ad : Option Addr} (h : RowAt fsV w ad R) (k : Nat) (hk : k < R.length) : ∃ x off, ad = some ⟨x, off, none⟩ ∧ x < w.heap.size ∧ w.cell? ⟨x, off + k, none⟩ = some (.slice R[k].1 R[k].2.2.length R[k].2.1) := by
  obtain ⟨x, off, e, h1, h2⟩ := h _ _ (flat_get fsV_len R k hk 0 (by omega))
  exact ⟨x, off, e, h1, by simpa using h2⟩
def allN (R : List (Option Addr × Nat × List Fl)) : List Int := R.flatMap fun x => Sg.nums x.2.2
theorem allN_take (R : List (Option Addr × Nat × List Fl)) (k : Nat) (h : k < R.length) : allN (R.take (k + 1)) = allN (R.take k) ++ Sg.nums R[k].2.2 := by
  unfold allN; rw [List.take_succ_eq_append_getElem h, List.flatMap_append]; simp
theorem nums_take (L : List Fl) (k : Nat) (h : k < L.length) : Sg.nums (L.take (k + 1)) = Sg.nums (L.take k) ++ [L[k].n] := by
  unfold Sg.nums; rw [List.take_succ_eq_append_getElem h, List.map_append]; rfl
theorem cell_one_next (w : World) (o : Obj) (x : Value) (t : TypeId) : ∀ j u, [x][j]? = some u → ((w.alloc o).alloc (.cells #[x] t)).cell? ((⟨w.heap.size + 1, 0, none⟩ : Addr).add j) = some u := by
  have := cell_one_new (w.alloc o) x t
  rw [World.size_alloc] at this
  exact this
theorem nums_len (L : List Fl) : (Sg.nums L).length = L.length := by simp [Sg.nums]

set_option maxHeartbeats 4000000 in
set_option maxRecDepth 100000 in
theorem numbers_any (R : List (Option Addr × Nat × List Fl)) (ad : Option Addr) (cap : Nat) (w : World) (hR : RowAt fsV w ad R) (hn : R.length ≤ 10) (hF : ∀ x ∈ R, RowAt flf w x.1 x.2.2 ∧ x.2.2.length ≤ 3000) :
    Calls Tryd.prog 44 #[.slice ad R.length cap] w fun e w' => ∃ ad2 cap2, e = .returned (.slice ad2 (allN R).length cap2) ∧ IntsAt w' ad2 (allN R) ∧ (∀ p, ad2 = some p → w.heap.size ≤ p.block) ∧ Gr w w' := by
  obtain ⟨i0, hi0, hz0, hz1, hz2⟩ := info_parts infoN
  have HR := Lib.hid hR
  have HF := Lib.hid hF
  have hal : ∀ k, k ≤ R.length → (allN (R.take k)).length ≤ 3000 * k := by
    intro k hk
    induction k with
    | zero => simp [allN]
    | succ k ih =>
      rw [allN_take R k (by omega), List.length_append, nums_len]
      have := ih (by omega)
      have := (hF _ (List.getElem_mem (show k < R.length by omega))).2
      omega
  have HAl := Lib.hid hal
  clear hR hF hal
  go_enter Tryd.func44, Tryd.ntmps44
  go_wp2
  go_loopw [3, 10] (fun v i wr => ∃ k : Nat, k ≤ R.length ∧ i = .int .i64 k ∧ wr.ownsRow w.heap.size 3 1 v (allN (R.take k)).length (intV (allN (R.take k))) ∧ Gr w wr) (fun _ i _ => R.length - (intOf i).toNat)
  case atStart => exact ⟨0, Nat.zero_le _, rfl, World.ownsRow_nil _ _ _ _, Gr.refl _⟩
  case round =>
    rename_i v
    obtain ⟨k, hk, rfl, hown, hg⟩ := hrel
    have HG := Lib.hid hg
    by_cases hlt : k < R.length
    · obtain ⟨b, off, rfl, hb, hc⟩ := fs_at HR.out k hlt
      have hc := hg.keep hc
      have hki : (k : Int) < (R.length : Int) := by omega
      obtain ⟨hrow, hlen⟩ := HF.out R[k] (List.getElem_mem hlt)
      have HRow := Lib.hid hrow
      have HT := Lib.hid (allN_take R k hlt)
      have hal := HAl.out k (by omega)
      have HO := Lib.hid hown
      clear hrow hown hg
      generalize R[k] = x at *
      obtain ⟨xa, xc, L⟩ := x
      simp only at *
      generalize allN (R.take k) = A at *
      obtain ⟨wo, rfl⟩ : ∃ x, x = wr := ⟨_, rfl⟩
      go_wp2
      go_loopw [3, 16] (fun v i wr2 => ∃ j : Nat, j ≤ L.length ∧ i = .int .i64 j ∧ wr2.ownsRow w.heap.size 3 1 v (A ++ Sg.nums (L.take j)).length (intV (A ++ Sg.nums (L.take j))) ∧ Gr w wr2) (fun _ i _ => L.length - (intOf i).toNat)
      case atStart => exact ⟨0, Nat.zero_le _, rfl, by simpa [Sg.nums] using HO.out, HG.out⟩
      case round =>
        rename_i v2
        obtain ⟨j, hj, rfl, hown, hg⟩ := hrel
        by_cases hjl : j < L.length
        · obtain ⟨xb, xo, rfl, hxb, c0, c1, c2⟩ := fl_at HRow.out j hjl
          have gk := HG.out
          have c0 := hg.keep c0
          have c1 := hg.keep c1
          have c2 := hg.keep c2
          have hji : (j : Int) < (L.length : Int) := by omega
          have HE : Hid (intV (A ++ Sg.nums (L.take (j + 1))) = intV (A ++ Sg.nums (L.take j)) ++ [.int .i64 L[j].n]) := by
            show _ = _
            rw [nums_take L j hjl, ← List.append_assoc, intV_snoc]
          have hAl : (A ++ Sg.nums (L.take j)).length = A.length + j := by rw [List.length_append, nums_len, List.length_take]; omega
          have HE2 : Hid ((A ++ Sg.nums (L.take (j + 1))).length = A.length + j + 1) := by show _ = _; rw [List.length_append, nums_len, List.length_take]; omega
          have hs2 := hg.size
          rw [hAl] at hown
          have hm1 : A.length + j + 1 ≤ maxLen := by unfold maxLen; omega
          generalize A ++ Sg.nums (L.take j) = B at *
          generalize L[j] = f at *
          obtain ⟨fn, fd, fy⟩ := f
          simp only at *
          obtain ⟨va, vc, rfl⟩ := own_slice hown
          clear gk
          go_wp2_with (first
            | (at_builtin; refine wpList_append_own _ rfl _ _ 57 rfl w.heap.size 3 i0 (.int .i64 0) 1 8 Tryd.underlying57 hi0 hz0 hz1 hz2 rfl (by decide) _ _ _ rfl ((hown.alloc _).alloc _) ⟨wr.heap.size + 1, 0, none⟩ 1 1 [.int .i64 fn] rfl rfl (cell_one_next _ _ _ _) (by intro u hu; simp at hu; subst hu; rfl) hm1 (by omega) (by simp; omega) ?_)
            | fail)
          intro v' w1 hown' hgrow _
          have HG1 : Hid (Gr w w1) := hg.alloc.alloc.grown hgrow (fun q hq => (hown.lt q hq).1)
          have HO1 := Lib.hid hown'
          clear hown' hgrow hown hg
          go_wp2
          go_roundw
          case rel => exact ⟨j + 1, by omega, by go_num, by rw [HE.out, HE2.out]; exact HO1.out, HG1.out⟩
          case measure => simp [intOf]; omega
        · have hji : ¬ ((j : Int) < (L.length : Int)) := by omega
          have hall : L.take j = L := List.take_of_length_le (by omega)
          rw [hall, ← HT.out] at hown
          have HO2 := Lib.hid hown
          have HG2 := Lib.hid hg
          clear hown hg hall
          go_wp2
          go_roundw
          case rel => exact ⟨k + 1, by omega, by go_num, HO2.out, HG2.out⟩
          case measure => simp [intOf]; omega
    · have hge : ¬ ((k : Int) < (R.length : Int)) := by omega
      have hall : R.take k = R := List.take_of_length_le (by omega)
      rw [hall] at hown
      obtain ⟨ad2, cap2, rfl, hfr, hia⟩ := own_nums hown
      have HI := Lib.hid hia
      clear hown hg hall hia
      go_wp2
      go_ret
      exact ⟨ad2, ⟨cap2, rfl⟩, HI.out, hfr, HG.out⟩
end Go.Proofs.YtojmhhmpmpbpfaaDoor
namespace Go.Proofs.YtojmhhmpmpbpfaaDoor
open Go.ChangeShapes Go.WideShapes Go.ChangeAt Go.RowKit
open Dk (Fl)

theorem laidOut2 : laidOutB Tryd.prog = true := by kernel_rfl
theorem rng_i64 {n : Int} (h : (Lit.int .i64 n).wf = true) : -9223372036854775808 ≤ n ∧ n ≤ 9223372036854775807 := by
  simp only [Lit.wf, Bool.and_eq_true, decide_eq_true_eq] at h
  exact h
theorem row_of {α : Type} {f : α → List Value} {c : Nat} (hc : ∀ x, (f x).length = c) (h0 : 0 < c) {w : World} {b off : Nat} {L : List α}
    (each : ∀ q (h : q < L.length) r u, (f L[q])[r]? = some u → w.cell? ⟨b, off + (q * c + r), none⟩ = some u) : RowAt f w (some ⟨b, off, none⟩) L := by
  intro j u hu
  have hj : j < (L.flatMap f).length := by
    rcases Nat.lt_or_ge j (L.flatMap f).length with h | h
    · exact h
    · rw [List.getElem?_eq_none h] at hu; cases hu
  rw [flat_len hc] at hj
  have hr : j % c < c := Nat.mod_lt _ h0
  have hq : j / c < L.length := Nat.div_lt_of_lt_mul (by rw [Nat.mul_comm]; exact hj)
  have e : j = j / c * c + j % c := by rw [Nat.mul_comm]; exact (Nat.div_add_mod j c).symm
  rw [e, flat_get hc L (j / c) hq (j % c) hr] at hu
  have h := each (j / c) hq (j % c) u hu
  rw [← e] at h
  exact ⟨b, off, rfl, World.block_lt_of_cell? w _ h, h⟩
theorem open_rows {α : Type} [Inhabited α] {f : α → List Value} {c : Nat} (hc : ∀ x, (f x).length = c) (h0 : 0 < c) {In : α → Prop} {t e : TypeId} (ht : Tryd.prog.underlying t = some (.slice e)) (ce : Tryd.prog.cellsOf e = c)
    {H : Type} {enc : TypeId × Value → H} {W : World} {base : Nat} {sp : Nat → Bool} {held : Bool} {fuel : Nat} {a0 : Option Addr} {len0 cap0 : Nat} {x : DataW H × List MemPlace}
    (elem : ∀ (n : Nat) (cs : List Value) (y : DataW H × List MemPlace), cs.length = c → DataW.trod enc Tryd.prog W base sp held n e cs = some y → ∃ z : α, cs = f z ∧ In z)
    (hf : DataW.trod enc Tryd.prog W base sp held fuel t [.slice a0 len0 cap0] = some x) :
    ∃ L : List α, len0 = L.length ∧ RowAt f W a0 L ∧ L.length ≤ 9223372036854775807 ∧ (∀ y ∈ L, In y) ∧ (a0 = none → cap0 = 0) := by
  rcases Deep.open_slice ht hf with ⟨hcs, _⟩ | ⟨a, len, cap, m, n, D, Pl, hcs, _, hl, hm, hmm, _, hx⟩
  · simp at hcs
    obtain ⟨rfl, rfl, rfl⟩ := hcs
    exact ⟨[], rfl, RowAt.nil, by simp, by simp, fun _ => rfl⟩
  · simp at hcs
    obtain ⟨rfl, rfl, rfl⟩ := hcs
    have hlm : len0 ≤ m := by rw [hmm]; split <;> omega
    have each : ∀ i, i < len0 → ∃ z : α, (∀ r u, (f z)[r]? = some u → W.cell? (a.add (i * c + r)) = some u) ∧ In z := by
      intro i hi
      obtain ⟨cs, h1, h2⟩ := hx i (by omega)
      rw [ce] at h1
      obtain ⟨_, hlen, hcell⟩ := World.cells?_some h1
      obtain ⟨z, rfl, hz⟩ := elem n cs _ hlen h2
      refine ⟨z, fun r u hu => ?_, hz⟩
      have hr : r < c := by
        rcases Nat.lt_or_ge r (f z).length with h | h
        · rw [hc] at h; exact h
        · rw [List.getElem?_eq_none h] at hu; cases hu
      have c0 := hcell r hr
      rw [Deep.add_add] at c0
      rw [c0, ← hu]
    obtain ⟨g, hg⟩ := Deep.choose_lt each
    unfold maxLen at hm
    refine ⟨(List.range len0).map g, by simp, ?_, by simp; omega, ?_, fun e => by cases e⟩
    · cases len0 with
      | zero => simp; exact RowAt.nil
      | succ l =>
        obtain ⟨b, off, spot⟩ := a
        have h00 : 0 < (f (g 0)).length := by rw [hc]; exact h0
        have hspot : spot = none := by
          have := World.cell?_spot ((hg 0 (by omega)).1 0 _ (List.getElem?_eq_getElem h00))
          simpa [Addr.add] using this
        subst hspot
        refine row_of hc h0 fun q hq r u hu => ?_
        have hq' : q < l + 1 := by simpa using hq
        have := (hg q hq').1 r u (by simpa using hu)
        rwa [Addr.add_lit] at this
    · intro y hy
      obtain ⟨j, hj, rfl⟩ := List.mem_map.1 hy
      exact (hg j (by simpa using hj)).2
/- numbers -/
def inf (n : Int) : List Value := [.int .i64 n]
theorem inf_len (x : Int) : (inf x).length = 1 := rfl
theorem ints_of {w : World} {ad : Option Addr} {l : List Int} (h : RowAt inf w ad l) : IntsAt w ad l := by
  intro j hj
  obtain ⟨x, off, e, h1, h2⟩ := h _ _ (flat_get inf_len l j hj 0 (by omega))
  exact ⟨x, off, e, h1, by simpa using h2⟩
theorem trod_n {H : Type} {enc : TypeId × Value → H} {W : World} {base : Nat} {sp : Nat → Bool} {held : Bool} (n : Nat) (cs : List Value) (y : DataW H × List MemPlace) (_ : cs.length = 1)
    (h : DataW.trod enc Tryd.prog W base sp held n 3 cs = some y) : ∃ z : Int, cs = inf z ∧ True := by
  obtain ⟨z0, e0, _, r0⟩ := DataW.trod_int Tryd.underlying3 h
  exact ⟨z0, e0, trivial⟩
set_option maxRecDepth 100000 in
theorem trod_ns {H : Type} {enc : TypeId × Value → H} {W : World} {base : Nat} {sp : Nat → Bool} {held : Bool} {fuel : Nat} {v : Value} {x : DataW H × List MemPlace}
    (h : DataW.trod enc Tryd.prog W base sp held fuel 57 [v] = some x) : ∃ ad cap, ∃ l : List Int, v = .slice ad l.length cap ∧ KAt W ad cap l ∧ l.length ≤ 9223372036854775807 := by
  have s1 : ∃ a l c, v = .slice a l c := by
    rcases Deep.open_slice Tryd.underlying57 h with ⟨hcs, _⟩ | ⟨a, len, cap, _, _, _, _, hcs, _⟩
    · simp at hcs; exact ⟨_, _, _, hcs⟩
    · simp at hcs; exact ⟨_, _, _, hcs⟩
  obtain ⟨a0, l0, c0, rfl⟩ := s1
  obtain ⟨L, rfl, h1, h2, _, h4⟩ := open_rows inf_len (by decide) Tryd.underlying57 (by kernel_rfl) trod_n h
  exact ⟨a0, c0, L, rfl, ⟨ints_of h1, h4⟩, h2⟩
set_option maxRecDepth 100000 in
theorem open_keep {H : Type} {enc : TypeId × Value → H} {W : World} {base : Nat} {v : Value} {d : DataW H} {ps : List MemPlace}
    (hok : Value.okWide Tryd.prog W .any base 57 v) (h : DataW.Trod enc Tryd.prog W 0 (fun _ => true) true 57 v d ps) :
    ∃ ad cap, ∃ l : List Int, v = .slice ad l.length cap ∧ KAt W ad cap l ∧ l.length ≤ 9223372036854775807 := by
  obtain ⟨a0, len, cap, rfl⟩ := okWide_slice Tryd.underlying57 hok
  obtain ⟨fuel, hf⟩ := h
  simp only [Value.cells] at hf
  exact trod_ns hf
/- files -/
set_option maxRecDepth 100000 in
theorem trod_fl {H : Type} {enc : TypeId × Value → H} {W : World} {base : Nat} {sp : Nat → Bool} {held : Bool} (n : Nat) (cs : List Value) (y : DataW H × List MemPlace) (hl : cs.length = 3)
    (h : DataW.trod enc Tryd.prog W base sp held n 68 cs = some y) : ∃ z : Fl, cs = flf z ∧ ((-9223372036854775808 ≤ z.n ∧ z.n ≤ 9223372036854775807) ∧ z.d.size ≤ 9223372036854775807 ∧ (-9223372036854775808 ≤ z.y ∧ z.y ≤ 9223372036854775807)) := by
  match cs, hl with
  | [v0, v1, v2], _ =>
    obtain ⟨y0, y1, y2, n, _, _, t0, t1, t2⟩ := Deep.trod_struct3 Tryd.underlying68 h
    have k0 : Tryd.prog.cellsOf 3 = 1 := by kernel_rfl
    have k1 : Tryd.prog.cellsOf 9 = 1 := by kernel_rfl
    simp [k0, k1] at t0 t1 t2
    obtain ⟨z0, e0, _, r0⟩ := DataW.trod_int Tryd.underlying3 t0
    obtain ⟨z1, e1, _, r1⟩ := DataW.trod_string Tryd.underlying9 t1
    obtain ⟨z2, e2, _, r2⟩ := DataW.trod_int Tryd.underlying3 t2
    simp at e0 e1 e2
    subst e0 e1 e2
    unfold maxLen at r1
    exact ⟨⟨z0, z1, z2⟩, rfl, rng_i64 r0, (by show z1.size ≤ _; omega), rng_i64 r2⟩
set_option maxRecDepth 100000 in
theorem open_files {H : Type} {enc : TypeId × Value → H} {W : World} {base : Nat} {v : Value} {d : DataW H} {ps : List MemPlace}
    (hok : Value.okWide Tryd.prog W .any base 46 v) (h : DataW.Trod enc Tryd.prog W 0 (fun _ => true) true 46 v d ps) :
    ∃ ad cap, ∃ L : List Fl, v = .slice ad L.length cap ∧ RowAt flf W ad L ∧ L.length ≤ 9223372036854775807 ∧ (∀ z ∈ L, (-9223372036854775808 ≤ z.n ∧ z.n ≤ 9223372036854775807) ∧ z.d.size ≤ 9223372036854775807 ∧ (-9223372036854775808 ≤ z.y ∧ z.y ≤ 9223372036854775807)) ∧ (ad = none → cap = 0) := by
  obtain ⟨a0, len0, cap0, rfl⟩ := okWide_slice Tryd.underlying46 hok
  obtain ⟨fuel, hf⟩ := h
  simp only [Value.cells] at hf
  have : Inhabited Fl := ⟨⟨0, ⟨#[]⟩, 0⟩⟩
  obtain ⟨L, rfl, h1, h2, h3, h4⟩ := open_rows flf_len (by decide) Tryd.underlying46 (by kernel_rfl) trod_fl hf
  exact ⟨a0, cap0, L, rfl, h1, h2, h3, h4⟩
/- acts -/
theorem trod_struct5 {P : Program} {H : Type} {enc : TypeId × Value → H} {w : World} {base : Nat} {spare : Nat → Bool} {held : Bool} {t : TypeId} {f0 f1 f2 f3 f4 : Field} {fuel : Nat} {cs : List Value} {x : DataW H × List MemPlace} (ht : P.underlying t = some (.struct #[f0, f1, f2, f3, f4])) (h : DataW.trod enc P w base spare held fuel t cs = some x) :
    ∃ y0 y1 y2 y3 y4 n, DataW.trod enc P w base spare held n f0.type ((cs.drop f0.offset).take (P.cellsOf f0.type)) = some y0 ∧
      DataW.trod enc P w base spare held n f1.type ((cs.drop f1.offset).take (P.cellsOf f1.type)) = some y1 ∧ DataW.trod enc P w base spare held n f2.type ((cs.drop f2.offset).take (P.cellsOf f2.type)) = some y2 ∧
      DataW.trod enc P w base spare held n f3.type ((cs.drop f3.offset).take (P.cellsOf f3.type)) = some y3 ∧ DataW.trod enc P w base spare held n f4.type ((cs.drop f4.offset).take (P.cellsOf f4.type)) = some y4 := by
  obtain ⟨xs, n, _, rfl, hl, hlen, hf⟩ := DataW.trod_struct ht h
  match xs, hlen with
  | [y0, y1, y2, y3, y4], _ => exact ⟨y0, y1, y2, y3, y4, n, by simpa using hf 0 f0 rfl, by simpa using hf 1 f1 rfl, by simpa using hf 2 f2 rfl, by simpa using hf 3 f3 rfl, by simpa using hf 4 f4 rfl⟩
end Go.Proofs.YtojmhhmpmpbpfaaDoor
namespace Go.Proofs.YtojmhhmpmpbpfaaDoor
open Go.ChangeShapes Go.WideShapes Go.ChangeAt Go.RowKit
open Dk (Fl)

set_option maxRecDepth 100000 in
theorem open_files16 {H : Type} {enc : TypeId × Value → H} {W : World} {base : Nat} {v : Value} {d : DataW H} {ps : List MemPlace}
    (hok : Value.okWide Tryd.prog W .any base 46 v) (h : DataW.Trod enc Tryd.prog W 0 (fun _ => true) true 46 v d ps) :
    ∃ ad cap, ∃ L : List Fl, v = .slice ad L.length cap ∧ RowAt flf W ad L ∧ L.length ≤ 9223372036854775807 ∧ (∀ z ∈ L, (-9223372036854775808 ≤ z.n ∧ z.n ≤ 9223372036854775807) ∧ z.d.size ≤ 9223372036854775807 ∧ (-9223372036854775808 ≤ z.y ∧ z.y ≤ 9223372036854775807)) ∧ (ad = none → cap = 0) ∧ L.length ≤ cap := by
  have h' := h
  obtain ⟨ad, cap, L, rfl, h1, h2, h3, h4⟩ := open_files hok h
  refine ⟨ad, cap, L, rfl, h1, h2, h3, h4, ?_⟩
  obtain ⟨fuel, hf⟩ := h'
  simp only [Value.cells] at hf
  rcases Deep.open_slice Tryd.underlying46 hf with ⟨hcs, _⟩ | ⟨a, len, cap', m, n, D, Pl, hcs, _, hl, _⟩
  · simp at hcs
    rw [hcs.2.1]; simp
  · simp at hcs
    omega
end Go.Proofs.YtojmhhmpmpbpfaaDoor
