/- Parts of these proofs, laid together. -/
import Derived.Test.YtojmhhmpmpbpfaaGreatDoorGS
import Derived.Test.YtojmhhmpmpbpfaaGreatDoorGV
import Derived.Test.YtojmhhmpmpbpfaaGreatDoorGG
import Derived.Test.YtojmhhmpmpbpfaaGreatDoorGB
import Derived.Lib.Strings
import Derived.Deep.QuietTactic
import Derived.BigQuiet
import Derived.Deep.RegionHeld3
namespace Go.Proofs.YtojmhhmpmpbpfaaGreatDoor
open Go.RowKit
open Dk (Fl zf)

set_option maxHeartbeats 1000000 in
set_option maxRecDepth 100000 in
theorem head_any (f : Fl) (w : World) (hT : Tab w) (hs : f.d.size ≤ 300000) :
    Calls Tryz.prog 56 #[.agg #[.int .i64 f.n, .string f.d, .int .i64 f.y]] w fun e w' => e = .returned (.int .i64 (Sg.hd f : Nat)) ∧ Gr w w' := by
  obtain ⟨n, d, y⟩ := f
  have HO : Hid (∀ w', Gr w w' → Calls Tryz.prog 57 #[.string d, .int .i64 0, .int .i64 3] w' fun e w2 => ∃ a b, e = .returned (.tuple #[.string a, .int .i64 b, .int .i64 ((Sg.hd ⟨n, d, y⟩ : Nat) : Int)]) ∧ Gr w' w2) := by
    intro w' g
    refine (open_any d 0 3 w' (hT.gr g) (by show d.size ≤ _; have : d.size ≤ 300000 := hs; omega)).mono ?_
    rintro e w2 ⟨rfl, h⟩
    exact ⟨_, _, rfl, h⟩
  clear hT
  generalize Sg.hd ⟨n, d, y⟩ = r at *
  simp only at *
  go_enter Tryz.func56, Tryz.ntmps56
  go_wp2_with fail
  refine (HO.out _ (by repeat (first | exact Gr.refl _ | refine Gr.alloc ?_ | refine Gr.drew ?_ | refine Gr.trans ?_ (by assumption)))).mono ?_
  rintro e w1 ⟨a, b, rfl, hg1⟩
  go_wp2
  go_ret
  exact ⟨rfl, (by repeat (first | exact Gr.refl _ | refine Gr.alloc ?_ | refine Gr.drew ?_ | refine Gr.trans ?_ (by assumption)))⟩

set_option maxHeartbeats 2000000 in
set_option maxRecDepth 100000 in
theorem lastWhole_any (L : List Fl) (ad : Option Addr) (cap : Nat) (w : World) (hT : Tab w) (hL : FsAt w ad cap L) :
    Calls Tryz.prog 55 #[.slice ad L.length cap, .func (.func 56) #[] #[]] w fun e w' => e = .returned (.tuple #[.int .i64 (Sg.lw L L.length).1, .int .i64 (Sg.lw L L.length).2]) ∧ Gr w w' := by
  have HL := Lib.hid hL.row
  have HH : Hid (∀ (f : Fl) (w' : World), f ∈ L → Gr w w' → Calls Tryz.prog 56 #[.agg #[.int .i64 f.n, .string f.d, .int .i64 f.y]] w' fun e w2 => e = .returned (.int .i64 (Sg.hd f : Nat)) ∧ Gr w' w2) := fun f w' hf g => head_any f w' (hT.gr g) (hL.rng f hf).2.2
  have hl := hL.len
  clear hL hT
  go_enter Tryz.func55, Tryz.ntmps55
  go_wp2
  go_loopw [6] (fun i wr => ∃ k : Nat, k ≤ L.length ∧ i = .int .i64 ((k : Int) - 1) ∧ Sg.lw L L.length = Sg.lw L k ∧ Gr w wr) (fun i _ => (intOf i + 1).toNat)
  case atStart => exact ⟨L.length, Nat.le_refl _, rfl, rfl, Gr.refl _⟩
  case round =>
    obtain ⟨k, hk, rfl, hlw, hg⟩ := hrel
    have HLw := Lib.hid hlw
    have HG := Lib.hid hg
    cases k with
    | zero =>
      have HN : Hid (Sg.lw L L.length = (-1, 0)) := by show _ = _; rw [HLw.out]; rfl
      clear hlw hg
      have h1 : ((0 : Nat) : Int) - 1 = -1 := by omega
      rw [h1]
      go_wp2
      go_ret2
      rw [HN.out]
      exact ⟨rfl, HG.out⟩
    | succ p =>
      obtain ⟨b, off, rfl, hb, c0, c1, c2⟩ := fl_at HL.out p (by omega)
      have c0 := hg.keep c0
      have c1 := hg.keep c1
      have c2 := hg.keep c2
      have h1 : ((p + 1 : Nat) : Int) - 1 = (p : Int) := by omega
      have hpl : (p : Int) < (L.length : Int) := by omega
      have HX := Lib.hid (fun w' g => HH.out L[p] w' (List.getElem_mem (by omega)) g)
      have he : Sg.lw L (p + 1) = if Sg.hd L[p] = 0 then ((p : Int), 0) else if Sg.hd L[p] = 10 then Sg.lw L p else (-1, 170) := by rw [Sg.lw, Sg.at_eq L p (by omega)]
      rw [he] at HLw
      clear hlw hg HH he
      generalize L[p] = f at *
      obtain ⟨fn, fd, fy⟩ := f
      simp only at *
      generalize Sg.hd ⟨fn, fd, fy⟩ = r at *
      rw [h1]
      by_cases r0 : r = 0
      · subst r0
        rw [if_pos rfl] at HLw
        go_wp2_with fail
        refine (HX.out _ (HG.out.trans (by repeat (first | exact Gr.refl _ | refine Gr.alloc ?_ | refine Gr.drew ?_ | refine Gr.trans ?_ (by assumption))))).mono ?_
        rintro e w1 ⟨rfl, hg1⟩
        go_wp2
        go_ret2
        rw [HLw.out]
        exact ⟨rfl, HG.out.trans (by repeat (first | exact Gr.refl _ | refine Gr.alloc ?_ | refine Gr.drew ?_ | refine Gr.trans ?_ (by assumption)))⟩
      · rw [if_neg r0] at HLw
        have q0 : ((r : Int) == 0) = false := by rw [beq_eq_false_iff_ne]; omega
        by_cases r1 : r = 10
        · subst r1
          rw [if_pos rfl] at HLw
          go_wp2_with fail
          refine (HX.out _ (HG.out.trans (by repeat (first | exact Gr.refl _ | refine Gr.alloc ?_ | refine Gr.drew ?_ | refine Gr.trans ?_ (by assumption))))).mono ?_
          rintro e w1 ⟨rfl, hg1⟩
          go_wp2
          go_roundw
          case rel => exact ⟨p, by omega, rfl, HLw.out, HG.out.trans (by repeat (first | exact Gr.refl _ | refine Gr.alloc ?_ | refine Gr.drew ?_ | refine Gr.trans ?_ (by assumption)))⟩
          case measure => simp [intOf]
        · rw [if_neg r1] at HLw
          have q1 : ((r : Int) == 10) = false := by rw [beq_eq_false_iff_ne]; omega
          go_wp2_with fail
          refine (HX.out _ (HG.out.trans (by repeat (first | exact Gr.refl _ | refine Gr.alloc ?_ | refine Gr.drew ?_ | refine Gr.trans ?_ (by assumption))))).mono ?_
          rintro e w1 ⟨rfl, hg1⟩
          go_wp2
          go_ret2
          rw [HLw.out]
          exact ⟨rfl, HG.out.trans (by repeat (first | exact Gr.refl _ | refine Gr.alloc ?_ | refine Gr.drew ?_ | refine Gr.trans ?_ (by assumption)))⟩

/- a row of rows of files -/
def fsV (x : Option Addr × Nat × List Fl) : List Value := [.slice x.1 x.2.2.length x.2.1]
theorem fsV_len (x : Option Addr × Nat × List Fl) : (fsV x).length = 1 := rfl
theorem fs_at {w : World} {R : List (Option Addr × Nat × List Fl)} {ad : Option Addr} (h : RowAt fsV w ad R) (k : Nat) (hk : k < R.length) : ∃ x off, ad = some ⟨x, off, none⟩ ∧ x < w.heap.size ∧ w.cell? ⟨x, off + k, none⟩ = some (.slice R[k].1 R[k].2.2.length R[k].2.1) := by
  obtain ⟨x, off, e, h1, h2⟩ := h _ _ (flat_get fsV_len R k hk 0 (by omega))
  exact ⟨x, off, e, h1, by simpa using h2⟩
def allN (R : List (Option Addr × Nat × List Fl)) : List Int := R.flatMap fun x => Sg.nums x.2.2
theorem allN_take (R : List (Option Addr × Nat × List Fl)) (k : Nat) (h : k < R.length) : allN (R.take (k + 1)) = allN (R.take k) ++ Sg.nums R[k].2.2 := by
  unfold allN; rw [List.take_succ_eq_append_getElem h, List.flatMap_append]; simp
theorem nums_take (L : List Fl) (k : Nat) (h : k < L.length) : Sg.nums (L.take (k + 1)) = Sg.nums (L.take k) ++ [L[k].n] := by
  unfold Sg.nums; rw [List.take_succ_eq_append_getElem h, List.map_append]; rfl
theorem cell_one_next (w : World) (o : Obj) (x : Value) (t : TypeId) : ∀ j u, [x][j]? = some u → ((w.alloc o).alloc (.cells #[x] t)).cell? ((⟨w.heap.size + 1, 0, none⟩ : Addr).add j) = some u := by
  have := cell_one_new (w.alloc o) x t
  rw [World.size_alloc] at this
  exact this
theorem nums_len (L : List Fl) : (Sg.nums L).length = L.length := by simp [Sg.nums]

set_option maxHeartbeats 4000000 in
set_option maxRecDepth 100000 in
theorem numbers_any (R : List (Option Addr × Nat × List Fl)) (ad : Option Addr) (cap : Nat) (w : World) (hR : RowAt fsV w ad R) (hn : R.length ≤ 10) (hF : ∀ x ∈ R, RowAt flf w x.1 x.2.2 ∧ x.2.2.length ≤ 3000) :
    Calls Tryz.prog 58 #[.slice ad R.length cap] w fun e w' => ∃ ad2 cap2, e = .returned (.slice ad2 (allN R).length cap2) ∧ IntsAt w' ad2 (allN R) ∧ (∀ p, ad2 = some p → w.heap.size ≤ p.block) ∧ Gr w w' := by
  obtain ⟨i0, hi0, hz0, hz1, hz2⟩ := info_parts infoN
  have HR := Lib.hid hR
  have HF := Lib.hid hF
  have hal : ∀ k, k ≤ R.length → (allN (R.take k)).length ≤ 3000 * k := by
    intro k hk
    induction k with
    | zero => simp [allN]
    | succ k ih =>
      rw [allN_take R k (by omega), List.length_append, nums_len]
      have := ih (by omega)
      have := (hF _ (List.getElem_mem (show k < R.length by omega))).2
      omega
  have HAl := Lib.hid hal
  clear hR hF hal
  go_enter Tryz.func58, Tryz.ntmps58
  go_wp2
  go_loopw [3, 10] (fun v i wr => ∃ k : Nat, k ≤ R.length ∧ i = .int .i64 k ∧ wr.ownsRow w.heap.size 3 1 v (allN (R.take k)).length (intV (allN (R.take k))) ∧ Gr w wr) (fun _ i _ => R.length - (intOf i).toNat)
  case atStart => exact ⟨0, Nat.zero_le _, rfl, World.ownsRow_nil _ _ _ _, Gr.refl _⟩
  case round =>
    rename_i v
    obtain ⟨k, hk, rfl, hown, hg⟩ := hrel
    have HG := Lib.hid hg
    by_cases hlt : k < R.length
    · obtain ⟨b, off, rfl, hb, hc⟩ := fs_at HR.out k hlt
      have hc := hg.keep hc
      have hki : (k : Int) < (R.length : Int) := by omega
      obtain ⟨hrow, hlen⟩ := HF.out R[k] (List.getElem_mem hlt)
      have HRow := Lib.hid hrow
      have HT := Lib.hid (allN_take R k hlt)
      have hal := HAl.out k (by omega)
      have HO := Lib.hid hown
      clear hrow hown hg
      generalize R[k] = x at *
      obtain ⟨xa, xc, L⟩ := x
      simp only at *
      generalize allN (R.take k) = A at *
      obtain ⟨wo, rfl⟩ : ∃ x, x = wr := ⟨_, rfl⟩
      go_wp2
      go_loopw [3, 16] (fun v i wr2 => ∃ j : Nat, j ≤ L.length ∧ i = .int .i64 j ∧ wr2.ownsRow w.heap.size 3 1 v (A ++ Sg.nums (L.take j)).length (intV (A ++ Sg.nums (L.take j))) ∧ Gr w wr2) (fun _ i _ => L.length - (intOf i).toNat)
      case atStart => exact ⟨0, Nat.zero_le _, rfl, by simpa [Sg.nums] using HO.out, HG.out⟩
      case round =>
        rename_i v2
        obtain ⟨j, hj, rfl, hown, hg⟩ := hrel
        by_cases hjl : j < L.length
        · obtain ⟨xb, xo, rfl, hxb, c0, c1, c2⟩ := fl_at HRow.out j hjl
          have gk := HG.out
          have c0 := hg.keep c0
          have c1 := hg.keep c1
          have c2 := hg.keep c2
          have hji : (j : Int) < (L.length : Int) := by omega
          have HE : Hid (intV (A ++ Sg.nums (L.take (j + 1))) = intV (A ++ Sg.nums (L.take j)) ++ [.int .i64 L[j].n]) := by
            show _ = _
            rw [nums_take L j hjl, ← List.append_assoc, intV_snoc]
          have hAl : (A ++ Sg.nums (L.take j)).length = A.length + j := by rw [List.length_append, nums_len, List.length_take]; omega
          have HE2 : Hid ((A ++ Sg.nums (L.take (j + 1))).length = A.length + j + 1) := by show _ = _; rw [List.length_append, nums_len, List.length_take]; omega
          have hs2 := hg.size
          rw [hAl] at hown
          have hm1 : A.length + j + 1 ≤ maxLen := by unfold maxLen; omega
          generalize A ++ Sg.nums (L.take j) = B at *
          generalize L[j] = f at *
          obtain ⟨fn, fd, fy⟩ := f
          simp only at *
          obtain ⟨va, vc, rfl⟩ := own_slice hown
          clear gk
          go_wp2_with (first
            | (at_builtin; refine wpList_append_own _ rfl _ _ 43 rfl w.heap.size 3 i0 (.int .i64 0) 1 8 Tryz.underlying43 hi0 hz0 hz1 hz2 rfl (by decide) _ _ _ rfl ((hown.alloc _).alloc _) ⟨wr.heap.size + 1, 0, none⟩ 1 1 [.int .i64 fn] rfl rfl (cell_one_next _ _ _ _) (by intro u hu; simp at hu; subst hu; rfl) hm1 (by omega) (by simp; omega) ?_)
            | fail)
          intro v' w1 hown' hgrow _
          have HG1 : Hid (Gr w w1) := hg.alloc.alloc.grown hgrow (fun q hq => (hown.lt q hq).1)
          have HO1 := Lib.hid hown'
          clear hown' hgrow hown hg
          go_wp2
          go_roundw
          case rel => exact ⟨j + 1, by omega, by go_num, by rw [HE.out, HE2.out]; exact HO1.out, HG1.out⟩
          case measure => simp [intOf]; omega
        · have hji : ¬ ((j : Int) < (L.length : Int)) := by omega
          have hall : L.take j = L := List.take_of_length_le (by omega)
          rw [hall, ← HT.out] at hown
          have HO2 := Lib.hid hown
          have HG2 := Lib.hid hg
          clear hown hg hall
          go_wp2
          go_roundw
          case rel => exact ⟨k + 1, by omega, by go_num, HO2.out, HG2.out⟩
          case measure => simp [intOf]; omega
    · have hge : ¬ ((k : Int) < (R.length : Int)) := by omega
      have hall : R.take k = R := List.take_of_length_le (by omega)
      rw [hall] at hown
      obtain ⟨ad2, cap2, rfl, hfr, hia⟩ := own_nums hown
      have HI := Lib.hid hia
      clear hown hg hall hia
      go_wp2
      go_ret
      exact ⟨ad2, ⟨cap2, rfl⟩, HI.out, hfr, HG.out⟩
end Go.Proofs.YtojmhhmpmpbpfaaGreatDoor
namespace Go.Proofs.YtojmhhmpmpbpfaaGreatDoor
open Go.RowKit
attribute [local go_sem ↓] Go.wp_at_zero Go.wp_at_succ

set_option maxHeartbeats 400000 in
set_option maxRecDepth 100000 in
theorem value_any (s : ByteArray) (w : World) (hs : s.size ≤ 140737488355328) (r : Nat) (q : Bool) (hr : (Pk.val s.data.toList < 18446744073709551616 ∧ r = Pk.val s.data.toList ∧ q = true) ∨ (18446744073709551616 ≤ Pk.val s.data.toList ∧ r = 0 ∧ q = false)) :
    Calls Tryz.prog 102 #[.string s] w fun e w' => e = .returned (.tuple #[.int .u64 r, .bool q]) ∧ w' = w := by
  have HR : Hid ((Pk.val s.data.toList < 18446744073709551616 ∧ r = Pk.val s.data.toList ∧ q = true) ∨ (18446744073709551616 ≤ Pk.val s.data.toList ∧ r = 0 ∧ q = false)) := hr
  clear hr
  go_enter Tryz.func102, Tryz.ntmps102
  go_wp2
  go_loop [4, 5] (fun n i => ∃ k x : Nat, k ≤ s.size ∧ i = .int .i64 ((k : Int) - 1) ∧ n = .int .u64 x ∧ x = Pk.val (s.data.toList.drop k) ∧ x < 18446744073709551616) (fun _ i => (intOf i + 1).toNat)
  case atStart =>
    refine ⟨s.size, 0, by omega, rfl, rfl, ?_, by omega⟩
    rw [List.drop_eq_nil_of_le (by simp)]; rfl
  case round =>
    obtain ⟨k, x, hk, rfl, rfl, hx, hx64⟩ := hrel
    have HX : Hid (x = Pk.val (s.data.toList.drop k)) := hx
    clear hx
    cases k with
    | zero =>
      have hR : r = x ∧ q = true := by
        have h1 := HX.out
        rw [List.drop_zero] at h1
        rcases HR.out with ⟨_, h3, h4⟩ | ⟨h2, _⟩
        · exact ⟨h3.trans h1.symm, h4⟩
        · omega
      obtain ⟨rfl, rfl⟩ := hR
      go_wp2
      go_ret2
      exact ⟨rfl, rfl⟩
    | succ j =>
      have hj : ((j + 1 : Nat) : Int) - 1 = (j : Int) := by omega
      have hjs : j < s.size := by omega
      rw [hj]
      by_cases hbig : 144115188075855871 < x
      · have hR : r = 0 ∧ q = false := by
          have h1 := HX.out
          have h2 := Pk.val_drop s.data.toList (j + 1)
          rw [← h1, Nat.pow_succ] at h2
          have h3 : 1 * (128 * x) ≤ 128 ^ j * (128 * x) := Nat.mul_le_mul_right _ (Nat.pow_pos (by omega))
          rw [Nat.mul_assoc] at h2
          rcases HR.out with ⟨h4, _⟩ | ⟨_, h4⟩
          · omega
          · exact h4
        obtain ⟨rfl, rfl⟩ := hR
        go_wp2
        go_ret2
        exact ⟨rfl, rfl⟩
      · have hb : (s[j]'hjs).toNat < 256 := (s[j]'hjs).toNat_lt
        go_wp2
        go_round
        case rel =>
          refine ⟨j, 128 * x + (s[j]'hjs).toNat % 128, by omega, by go_num, by go_num, ?_, by omega⟩
          rw [drop_at s j hjs, Pk.val, ← HX.out]; omega
        case measure => simp [intOf]

theorem drop_get (s : ByteArray) (a i : Nat) (h : i < (s.data.toList.drop a).length) (h2 : a + i < s.size) : (s.data.toList.drop a)[i] = s[a + i] := by
  rw [List.getElem_drop]; rfl
theorem ext_data (s : ByteArray) (a n : Nat) : (s.extract a (a + n)).data.toList = (s.data.toList.drop a).take n := by
  rw [Lib.extract_data]; simp

set_option maxHeartbeats 1000000 in
set_option maxRecDepth 100000 in
theorem refTakeNumber_any (s : ByteArray) (p : Int) (w : World) (hs : s.size ≤ 140737488355328) :
    Calls Tryz.prog 84 #[.string s, .int .i64 p] w fun e w' => e = .returned (.tuple #[.int .u64 (Pk.takeNum s.data.toList p).1, .int .i64 (Pk.takeNum s.data.toList p).2.1, .int .i64 (Pk.takeNum s.data.toList p).2.2]) ∧ Gr w w' := by
  have hsz : s.data.toList.length = s.size := by simp
  by_cases hp : 0 ≤ p ∧ p ≤ s.size
  · obtain ⟨hp0, hp1⟩ := hp
    obtain ⟨a, rfl⟩ := Int.eq_ofNat_of_zero_le hp0
    have HN := takeNum_in s.data.toList a (by omega)
    have HN' : Hid (∀ (r : Nat × Nat × Nat), Pk.take (List.drop a s.data.toList) = r → Pk.takeNum s.data.toList (a : Int) = (r.1, if r.2.2 = 0 then a + r.2.1 else 0, r.2.2)) := HN
    have HZ : Hid ((s.data.toList.drop a).length = s.size - a) := by show _ = _; rw [List.length_drop, hsz]
    clear HN hsz
    generalize Pk.takeNum s.data.toList (a : Int) = R at *
    have ht1 : decide ((a : Int) < 0) = false := by simp
    have ht2 : decide ((s.size : Int) < (a : Int)) = false := by simp; omega
    have ht3 : decide (s.size < a) = false := by simp; omega
    go_enter Tryz.func84, Tryz.ntmps84
    go_wp2
    go_loop [7] (fun t => ∃ k : Nat, k ≤ 9 ∧ t = .int .i64 ((a : Int) + k) ∧ a + k ≤ s.size ∧ ∀ i (h : a + i < s.size), i < k → 128 ≤ s[a + i].toNat) (fun t => s.size - (intOf t).toNat)
    case atStart => exact ⟨0, by omega, by simp, by omega, by intro i _ h; omega⟩
    case round =>
      obtain ⟨k, hk9, rfl, hks, hall⟩ := hrel
      have HA : Hid (∀ i (h : i < (s.data.toList.drop a).length), i < k → 128 ≤ (s.data.toList.drop a)[i].toNat) := by
        intro i h hi
        have := HZ.out
        rw [drop_get s a i h (by omega)]
        exact hall i (by omega) hi
      have HL : Hid (∀ i (h : a + i < s.size), i < k → 128 ≤ s[a + i].toNat) := hall
      clear hall
      by_cases hin : a + k < s.size
      · have hb := (s[a + k]'hin).toNat_lt
        by_cases hge : 128 ≤ (s[a + k]'hin).toNat
        · have HA1 : ∀ i (h : a + i < s.size), i < k + 1 → 128 ≤ s[a + i].toNat := by
            intro i h hi
            by_cases e : i = k
            · subst e; exact hge
            · exact HL.out i h (by omega)
          have HA2 : Hid (∀ i (h : a + i < s.size), i < k + 1 → 128 ≤ s[a + i].toNat) := HA1
          clear HA1
          by_cases h9 : k = 9
          · subst h9
            have ht := Pk.take_ten (s.data.toList.drop a) (by
              intro i h hi
              have := HZ.out
              rw [drop_get s a i h (by omega)]
              exact HA2.out i (by omega) hi) (by have := HZ.out; omega)
            have hR := HN'.out _ ht
            have HR : Hid (R = (0, 0, 11)) := by show R = _; simpa using hR
            clear ht hR HN'
            go_wp2
            go_ret3
            refine ⟨?_, Gr.refl _⟩
            rw [HR.out]; rfl
          · go_wp2
            go_round
            case rel => exact ⟨k + 1, by omega, by go_num, by omega, HA2.out⟩
            case measure => simp [intOf]; omega
        · have hkl : k < (s.data.toList.drop a).length := by have := HZ.out; omega
          have hg := drop_get s a k hkl hin
          have hlt : (s.data.toList.drop a)[k].toNat < 128 := by rw [hg]; omega
          have ht := Pk.take_end (s.data.toList.drop a) k hkl hk9 HA.out hlt
          have hvs := Pk.val_small (s.data.toList.drop a) k hkl hk9 hlt
          have hvf := Pk.val_form (s.data.toList.drop a) k hkl hk9 HA.out hlt
          rw [hg] at ht hvs hvf
          have hx : (s.extract a (a + k + 1)).data.toList = (s.data.toList.drop a).take (k + 1) := ext_data s a (k + 1)
          have hq : ((a : Int) + k == (s.size : Int)) = false := by simp; omega
          have hxs : (s.extract a (a + k + 1)).size ≤ 140737488355328 := by
            have : (s.extract a (a + k + 1)).data.toList.length ≤ k + 1 := by rw [hx]; exact List.length_take_le _ _
            have h2 : (s.extract a (a + k + 1)).data.toList.length = (s.extract a (a + k + 1)).size := by rw [Array.length_toList]; rfl
            omega
          have hval := fun w r q h => value_any (s.extract a (a + k + 1)) w hxs r q h
          rw [hx] at hval
          have htl : (s.extract a (a + k + 1)).toList = (s.data.toList.drop a).take (k + 1) := by rw [ByteArray.toList_eq, hx]
          have hE : IntKind.i64.wrap ((a : Int) + k + 1) = (a : Int) + k + 1 := by rw [IntKind.wrap_i64]; omega
          have hTN : ((a : Int) + k + 1).toNat = a + k + 1 := by omega
          have hE1 : (a : Int) ≤ (a : Int) + k + 1 := by omega
          have hE2 : (a : Int) + k + 1 ≤ (s.size : Int) := by omega
          clear hg hlt hkl hx hxs HA HL
          by_cases hA : k = 9 ∧ 1 < (s[a + k]'hin).toNat
          · rw [if_pos (Or.inl hA)] at ht
            have hR := HN'.out _ ht
            have HR : Hid (R = (0, 0, 11)) := by show R = _; simpa using hR
            have HV : Hid (∀ w : World, Calls Tryz.prog 102 #[.string (s.extract a (a + k + 1))] w fun e w' => e = .returned (.tuple #[.int .u64 0, .bool false]) ∧ w' = w) := fun w => hval w 0 false (Or.inr ⟨by omega, rfl, rfl⟩)
            clear ht hR HN' hval hvf hvs hA htl
            go_wp2_with fail
            refine (HV.out _).mono ?_
            rintro e w1 ⟨rfl, rfl⟩
            go_wp2_with fail
            go_quiet (fail)
            go_wp2
            go_ret3
            refine ⟨?_, ⟨below_drewN (Below.refl _ _) _⟩⟩
            rw [HR.out]; rfl
          · have hv64 := hvs.2 hA
            have hvf' := hvf hA
            have HV : Hid (∀ w : World, Calls Tryz.prog 102 #[.string (s.extract a (a + k + 1))] w fun e w' => e = .returned (.tuple #[.int .u64 (Pk.val ((s.data.toList.drop a).take (k + 1))), .bool true]) ∧ w' = w) := fun w => hval w _ true (Or.inl ⟨hv64, rfl, rfl⟩)
            have HM : Hid (∀ w : World, Calls Tryz.prog 103 #[.int .u64 (Pk.val ((s.data.toList.drop a).take (k + 1)))] w fun e w' => e = .returned (.string ⟨(Pk.num (Pk.val ((s.data.toList.drop a).take (k + 1)))).toArray⟩) ∧ Gr w w') := fun w => refNumber_any 9 _ w (by omega) (by omega) hv64
            by_cases hB : k ≠ 0 ∧ (s[a + k]'hin).toNat = 0
            · rw [if_pos (Or.inr hB)] at ht
              have hR := HN'.out _ ht
              have HR : Hid (R = (0, 0, 11)) := by show R = _; simpa using hR
              have hnn : ¬ Pk.num (Pk.val ((s.data.toList.drop a).take (k + 1))) = (s.data.toList.drop a).take (k + 1) := fun h => (hvf'.1 h) hB
              have hne : ((Pk.num (Pk.val ((s.data.toList.drop a).take (k + 1)))) == (s.extract a (a + k + 1)).toList) = false := by rw [htl]; simpa using hnn
              generalize Pk.num (Pk.val ((s.data.toList.drop a).take (k + 1))) = t at *
              generalize Pk.val ((s.data.toList.drop a).take (k + 1)) = v at *
              clear ht hR HN' hval hvf hvs hA hB htl hvf' hnn
              go_wp2_with fail
              refine (HV.out _).mono ?_
              rintro e w1 ⟨rfl, rfl⟩
              go_wp2_with fail
              go_region_held3 (fun _ => True) (trivial) ((go_at_call 103; refine (HM.out _).mono ?_; rintro e w2 ⟨rfl, hg2⟩))
              all_goals go_wp2
              all_goals go_ret3
              all_goals refine ⟨?_, (by repeat (first | exact Gr.refl _ | refine Gr.alloc ?_ | refine Gr.drew ?_ | refine Gr.trans ?_ (by assumption)))⟩
              all_goals rw [HR.out]; rfl
            · rw [if_neg (by omega)] at ht
              have hR := HN'.out _ ht
              have HR : Hid (R = (Pk.val ((s.data.toList.drop a).take (k + 1)), a + k + 1, 0)) := by show R = _; simpa [Nat.add_assoc] using hR
              have hne : ((Pk.num (Pk.val ((s.data.toList.drop a).take (k + 1)))) == (s.extract a (a + k + 1)).toList) = true := by rw [htl]; simpa using hvf'.2 hB
              generalize Pk.num (Pk.val ((s.data.toList.drop a).take (k + 1))) = t at *
              generalize Pk.val ((s.data.toList.drop a).take (k + 1)) = v at *
              clear ht hR HN' hval hvf hvs hA hB htl hvf'
              go_wp2_with fail
              refine (HV.out _).mono ?_
              rintro e w1 ⟨rfl, rfl⟩
              go_wp2_with fail
              go_region_held3 (fun _ => True) (trivial) ((go_at_call 103; refine (HM.out _).mono ?_; rintro e w2 ⟨rfl, hg2⟩))
              all_goals go_wp2
              all_goals go_ret3
              all_goals refine ⟨?_, (by repeat (first | exact Gr.refl _ | refine Gr.alloc ?_ | refine Gr.drew ?_ | refine Gr.trans ?_ (by assumption)))⟩
              all_goals rw [HR.out]; rfl
      · have ht := Pk.take_short (s.data.toList.drop a) (by
          intro i h
          have := HZ.out
          rw [drop_get s a i h (by omega)]
          exact HL.out i (by omega) (by omega)) (by have := HZ.out; omega)
        have hR := HN'.out _ ht
        have HR : Hid (R = (0, 0, 10)) := by show R = _; simpa using hR
        clear ht hR HN'
        have hq : ((a : Int) + k == (s.size : Int)) = true := by simp; omega
        go_wp2
        go_ret3
        refine ⟨?_, Gr.refl _⟩
        rw [HR.out]; rfl
  · rw [takeNum_out _ _ (by rw [hsz]; exact hp)]
    rcases (show p < 0 ∨ (0 ≤ p ∧ (s.size : Int) < p) from by omega) with h | ⟨h, h2⟩
    all_goals
      clear hp
      go_enter Tryz.func84, Tryz.ntmps84
      go_wp2
      go_ret3
      exact ⟨rfl, Gr.refl _⟩
end Go.Proofs.YtojmhhmpmpbpfaaGreatDoor
