/- pack.TakeTexts takes what Pk.takeTexts takes. -/
import Derived.Test.YtnkbnjkdlnafpaaTakeT
import Derived.Test.YtnkbnjkdlnafpaaSmall
import Derived.Test.YtnkbnjkdlnafpaaMath6
namespace Go.Proofs.Ytnkbnjkdlnafpaa
open Go.RowKit

theorem info9 : (Try.prog.info? 9).map (fun i => (i.zero, i.size, i.bytes)) = some (some (.string ⟨#[]⟩), 1, 16) := by kernel_rfl

set_option maxHeartbeats 400000 in
set_option maxRecDepth 100000 in
theorem taker_any (s : ByteArray) (q : Int) (w : World) :
    Calls Try.prog 33 #[.string s, .int .i64 q] w fun e w' => e = .returned (.func (.func 36) #[] #[.pointer (some ⟨w.heap.size, 0, none⟩), .pointer (some ⟨w.heap.size + 1, 0, none⟩)]) ∧ w' = (w.alloc (.cells #[.string s] 9)).alloc (.cells #[.int .i64 q] 3) := by
  go_enter Try.func33, Try.ntmps33
  go_wp2
  go_ret
  exact ⟨rfl, rfl⟩

set_option maxHeartbeats 400000 in
set_option maxRecDepth 100000 in
theorem takes_any (s : ByteArray) (p : Int) (b0 b1 : Nat) (w : World) (hs : s.size ≤ 140737488355328) (h0 : w.cell? ⟨b0, 0, none⟩ = some (.string s)) (h1 : w.heap[b1]? = some (.cells #[.int .i64 p] 3 (0, 0))) :
    Calls Try.prog 36 #[.pointer (some ⟨b0, 0, none⟩), .pointer (some ⟨b1, 0, none⟩)] w fun e w' =>
      e = .returned (.tuple #[.string ⟨(Pk.takeText s.data.toList p).1.toArray⟩, .int .i64 (Pk.takeText s.data.toList p).2.1, .int .i64 (Pk.takeText s.data.toList p).2.2]) ∧ w.grownBy w' (some b1) ∧
      ((Pk.takeText s.data.toList p).2.2 = 0 → w'.heap[b1]? = some (.cells #[.int .i64 (Pk.takeText s.data.toList p).2.1] 3 (0, 0))) := by
  have hsp := Pk.takeText_spec s.data.toList p
  have HC : Hid (∀ w : World, Calls Try.prog 23 #[.string s, .int .i64 p] w fun e w' => e = .returned (.tuple #[.string ⟨(Pk.takeText s.data.toList p).1.toArray⟩, .int .i64 (Pk.takeText s.data.toList p).2.1, .int .i64 (Pk.takeText s.data.toList p).2.2]) ∧ Gr w w') := fun w => takeText_any s p w hs
  have hc1 := cell_of_one h1
  have hlt := lt_of_block h1
  have H1 : Hid (w.heap[b1]? = some (.cells #[.int .i64 p] 3 (0, 0))) := h1
  generalize Pk.takeText s.data.toList p = T at *
  obtain ⟨t, q, e⟩ := T
  simp only at *
  clear h1
  by_cases he : e = 0
  · subst he
    clear hsp
    go_enter Try.func36, Try.ntmps36
    go_wp2_with fail
    refine (HC.out _).mono ?_
    rintro e w1 ⟨rfl, hg1⟩
    have h1' : w1.heap[b1]? = some (.cells #[.int .i64 p] 3 (0, 0)) := (hg1.below.block b1 hlt).trans H1.out
    have hc1' := cell_of_one h1'
    have hf1' := free_of_one h1'
    have H1' : Hid (w1.heap[b1]? = some (.cells #[.int .i64 p] 3 (0, 0))) := h1'
    clear h1'
    go_wp2
    go_ret3
    refine ⟨rfl, ?_, fun _ => one_setCell H1'.out⟩
    exact ⟨hg1.below.os, hg1.below.tape, hg1.below.output, by simpa [World.setCell] using hg1.size, fun k hk hne => (Below.heap_setCell _ _ _ _ (fun e => hne (by simp [e]))).trans (hg1.below.block k hk)⟩
  · have he2 : ((e : Int) == 0) = false := by simp; omega
    clear hsp
    go_enter Try.func36, Try.ntmps36
    go_wp2_with fail
    refine (HC.out _).mono ?_
    rintro e w1 ⟨rfl, hg1⟩
    go_wp2
    go_ret3
    exact ⟨rfl, ⟨hg1.below.os, hg1.below.tape, hg1.below.output, hg1.size, fun k hk _ => hg1.below.block k hk⟩, fun h => absurd h he⟩

def mkT (t : List UInt8) : ByteArray := ⟨t.toArray⟩
def strV (l : List (List UInt8)) : List Value := l.map fun t => Value.string (mkT t)
theorem strV_snoc (l : List (List UInt8)) (t : List UInt8) : strV (l ++ [t]) = strV l ++ [.string (mkT t)] := by simp [strV]

/- a row of strings that the call owns -/
theorem own_strs {base : Nat} {v : Value} {l : List (List UInt8)} {w : World} (h : w.ownsRow base 9 1 v l.length (strV l)) : ∃ ad cap, v = .slice ad l.length cap ∧ StrsAt w ad (l.map mkT) := by
  have hcell := fun g (hg : v.ownBlock = some g) => h.cells hg
  have hlt := h.lt
  obtain ⟨_, ⟨rfl, h0⟩ | ⟨g, cap, cur, rfl, _⟩⟩ := h
  · have : l = [] := List.length_eq_zero_iff.1 h0
    subst this
    exact ⟨none, 0, rfl, fun j hj => absurd hj (by simp)⟩
  · refine ⟨some ⟨g, 0, none⟩, cap, rfl, ?_⟩
    intro j hj
    have hj' : j < l.length := by simpa using hj
    refine ⟨g, 0, rfl, (hlt g rfl).2, ?_⟩
    have := hcell g rfl j (.string (mkT l[j])) (by simp [strV, hj'])
    rw [Addr.add_lit] at this
    simpa using this

theorem grownBy_block {w w' : World} {b : Nat} (h : w.grownBy w' (some b)) {k : Nat} (hk : k < w.heap.size) (hne : k ≠ b) : w'.heap[k]? = w.heap[k]? := h.block k hk (by simpa using hne)

set_option maxHeartbeats 1000000 in
set_option maxRecDepth 100000 in
theorem takeTexts_any (s : ByteArray) (p : Int) (w : World) (hs : s.size ≤ 1000000) :
    Calls Try.prog 25 #[.string s, .int .i64 p] w fun e w' => ∃ ad cap, e = .returned (.tuple #[.slice ad (Pk.takeTexts s.data.toList p).1.length cap, .int .i64 (Pk.takeTexts s.data.toList p).2.1, .int .i64 (Pk.takeTexts s.data.toList p).2.2]) ∧
      StrsAt w' ad ((Pk.takeTexts s.data.toList p).1.map mkT) ∧ Gr w w' := by
  obtain ⟨i0, hi, hz0, hz1, hz2⟩ := info_parts info9
  have hsp := Pk.takeNum_spec s.data.toList p
  have hsz : s.data.toList.length = s.size := by simp
  have hdef : Pk.takeTexts s.data.toList p = _ := rfl
  conv at hdef => rhs; unfold Pk.takeTexts
  have HC : Hid (∀ w : World, Calls Try.prog 19 #[.string s, .int .i64 p] w fun e w' => e = .returned (.tuple #[.int .u64 (Pk.takeNum s.data.toList p).1, .int .i64 (Pk.takeNum s.data.toList p).2.1, .int .i64 (Pk.takeNum s.data.toList p).2.2]) ∧ w' = w) := fun w => takeNumber_any s p w (by omega)
  generalize Pk.takeNum s.data.toList p = R at *
  generalize Pk.takeTexts s.data.toList p = T at *
  obtain ⟨n, q, e⟩ := R
  simp only at *
  rw [hsz] at hsp
  rcases hsp with ⟨rfl, h1, h2, h3, h4⟩ | h | h | h
  · rw [if_neg (by simp)] at hdef
    have HD : Hid (T = Pk.takeList s.data.toList n q []) := hdef
    have HZ : Hid (s.data.toList.length = s.size) := hsz
    clear hdef hsz h3 h2
    go_enter Try.func25, Try.ntmps25
    go_wp2_with fail
    refine (HC.out _).mono ?_
    rintro e w1 ⟨rfl, hw1⟩
    obtain rfl := hw1.symm
    clear hw1
    go_wp2_with fail
    refine (taker_any s q _).mono ?_
    rintro e w1 ⟨rfl, hw1⟩
    have hb0 : w1.cell? ⟨w.heap.size, 0, none⟩ = some (.string s) := by rw [hw1]; simp
    have hb1 : w1.heap[w.heap.size + 1]? = some (.cells #[.int .i64 q] 3 (0, 0)) := by
      rw [hw1]; have := heap_alloc_new (w.alloc (.cells #[.string s] 9)) (.cells #[.int .i64 q] 3); simpa using this
    have hbl : Below w.heap.size w w1 := by rw [hw1]; exact ((Below.refl _ _).alloc (Nat.le_refl _) _).alloc (by simp) _
    have hbs : w1.heap.size = w.heap.size + 2 := by rw [hw1]; simp
    have HB1 : Hid (w1.heap[w.heap.size + 1]? = some (.cells #[.int .i64 q] 3 (0, 0))) := hb1
    have HBS : Hid (w1.heap.size = w.heap.size + 2) := hbs
    clear hw1 hb1 hbs
    go_wp2_with fail
    go_loopw [8, 11, 29] (fun t l i wr => ∃ (k x : Nat) (acc : List (List UInt8)), k ≤ n ∧ i = .int .u64 k ∧ t = .int .i64 x ∧ x ≤ s.size ∧ k ≤ x ∧ acc.length = k ∧ T = Pk.takeList s.data.toList (n - k) x acc ∧
        wr.ownsRow (w.heap.size + 2) 9 1 l acc.length (strV acc) ∧ wr.heap[w.heap.size + 1]? = some (.cells #[.int .i64 x] 3 (0, 0)) ∧ wr.cell? ⟨w.heap.size, 0, none⟩ = some (.string s) ∧ Below w.heap.size w wr ∧ w.heap.size + 2 ≤ wr.heap.size)
      (fun _ _ i _ => n - (intOf i).toNat)
    case atStart => exact ⟨0, q, [], by omega, rfl, rfl, by omega, by omega, rfl, HD.out, World.ownsRow_nil _ _ _ _, HB1.out, hb0, hbl, by have := HBS.out; omega⟩
    case round =>
      clear hb0 hbl
      obtain ⟨k, x, acc, hk, rfl, rfl, hx, hkx, hacc, hT, hown, hB1, hB0, hb, hsize⟩ := hrel
      have hbB0 : w.heap.size < wr.heap.size := by omega
      have HT : Hid (T = Pk.takeList s.data.toList (n - k) x acc) := hT
      have HA : Hid (acc.length = k) := hacc
      have HB : Hid (wr.heap[w.heap.size + 1]? = some (.cells #[.int .i64 x] 3 (0, 0))) := hB1
      clear hT hacc hB1
      by_cases hlt : k < n
      · obtain ⟨m, hm⟩ : ∃ m, n - k = m + 1 := ⟨n - k - 1, by omega⟩
        have HM : Hid (n - k = m + 1) := hm
        have hT2 := HT.out
        rw [hm, Pk.takeList] at hT2
        have hsp2 := Pk.takeText_spec s.data.toList x
        rw [HZ.out] at hsp2
        have HX := takes_any s x w.heap.size (w.heap.size + 1) wr (by omega) hB0 HB.out
        generalize Pk.takeText s.data.toList (x : Int) = U at *
        obtain ⟨tx, y, e⟩ := U
        simp only at *
        have HX' : Hid (Calls Try.prog 36 #[.pointer (some ⟨w.heap.size, 0, none⟩), .pointer (some ⟨w.heap.size + 1, 0, none⟩)] wr fun e' w' =>
          e' = .returned (.tuple #[.string ⟨tx.toArray⟩, .int .i64 y, .int .i64 e]) ∧ wr.grownBy w' (some (w.heap.size + 1)) ∧ (e = 0 → w'.heap[w.heap.size + 1]? = some (.cells #[.int .i64 y] 3 (0, 0)))) := HX
        clear HX hm
        by_cases he : e = 0
        · subst he
          rw [if_neg (by simp)] at hT2
          have HT2 : Hid (T = Pk.takeList s.data.toList m y (acc ++ [tx])) := hT2
          have hy : x < y ∧ y ≤ s.size := by omega
          clear hT2 hsp2
          go_wp2_with fail
          refine HX'.out.mono ?_
          rintro e w2 ⟨rfl, hgb, hb2⟩
          have HB2 : Hid (w2.heap[w.heap.size + 1]? = some (.cells #[.int .i64 y] 3 (0, 0))) := hb2 trivial
          have hB0' : w2.cell? ⟨w.heap.size, 0, none⟩ = some (.string s) := hgb.cell hB0 (by simp)
          have hown2 := hown.kept hgb (Or.inr (by intro h; have := (hown.lt _ h).1; omega))
          have hbl2 : Below w.heap.size w w2 := hb.grown hgb (by omega) (by intro k hk; simp at hk; omega)
          have hs2 := hgb.size
          have hak : acc.length ≤ 1000000 := by have := HA.out; omega
          have hm1 : acc.length + 1 ≤ maxLen := by unfold maxLen; omega
          clear hb2 hgb hown
          go_wp2_with (first
            | (at_builtin; refine wpList_append_own _ rfl _ _ 27 rfl (w.heap.size + 2) 9 i0 (.string ⟨#[]⟩) 1 16 Try.underlying27 hi hz0 hz1 hz2 rfl (by decide) _ _ _ rfl (hown2.alloc _) ⟨w2.heap.size, 0, none⟩ 1 1 [.string ⟨tx.toArray⟩] rfl rfl (cell_one_new _ _ _) (by intro u hu; simp at hu; subst hu; rfl) hm1 (by omega) (by simp; omega) ?_)
            | fail)
          intro v' w3 hown' hgrow _
          go_wp2
          go_roundw
          case rel =>
            have hrow : ∀ k, u11.ownBlock = some k → w.heap.size + 2 ≤ k := fun k hk => (hown2.lt k hk).1
            have hbl3 : Below w.heap.size w (w2.alloc (.cells #[.string ⟨tx.toArray⟩] 9)) := hbl2.alloc (by omega) _
            refine ⟨k + 1, y, acc ++ [tx], by omega, by go_num, rfl, by omega, by omega, by simp [HA.out], ?_, ?_, ?_, ?_, ?_, ?_⟩
            · rw [HT2.out, show n - (k + 1) = m from by have := HM.out; omega]
            · rw [strV_snoc, List.length_append]; exact hown'
            · have h1 := HB2.out
              have h2 : w.heap.size + 1 < w2.heap.size := by omega
              rw [hgrow.block (w.heap.size + 1) (by simp; omega) (by intro h; have := hrow _ h.symm; omega), Below.heap_alloc _ _ _ h2]
              exact h1
            · refine hgrow.cell (a := ⟨w.heap.size, 0, none⟩) ?_ (by intro h; have := hrow _ h.symm; simp at this; omega)
              rw [← hB0']
              exact World.cell?_of_block (w := w2) (Below.heap_alloc _ _ _ (by show w.heap.size < _; omega))
            · exact hbl3.grown hgrow (by simp; omega) (fun k hk => by have := hrow k hk; omega)
            · have := hgrow.size; simp at this; omega
          case measure => simp [intOf]; omega
        · rw [if_pos (by simpa using he)] at hT2
          have HT2 : Hid (T = ([], 0, e)) := hT2
          have hen : ((e : Int) != 0) = true := by simp; omega
          clear hT2 hsp2
          go_wp2_with fail
          refine HX'.out.mono ?_
          rintro e' w2 ⟨rfl, hgb, _⟩
          have hbl2 : Below w.heap.size w w2 := hb.grown hgb (by omega) (by intro k hk; simp at hk; omega)
          clear hgb
          go_wp2
          go_ret3
          rw [HT2.out]
          exact ⟨none, 0, by simp, fun j hj => absurd hj (by simp), ⟨hbl2⟩⟩
      · have hkn : k = n := by omega
        have HT2 : Hid (T = (acc, x, 0)) := by
          show _ = _
          rw [HT.out, hkn, Nat.sub_self, Pk.takeList]
        obtain ⟨ad, cap, rfl, hst⟩ := own_strs hown
        have HST : Hid (StrsAt wr ad (acc.map mkT)) := hst
        clear hst hown hkn
        go_wp2
        go_ret3
        rw [HT2.out]
        exact ⟨ad, cap, by simp, HST.out, ⟨hb⟩⟩
  all_goals
    simp only [Prod.mk.injEq] at h
    obtain ⟨rfl, rfl, rfl⟩ := h
    rw [if_pos (by simp)] at hdef
    subst hdef
    go_enter Try.func25, Try.ntmps25
    go_wp2_with fail
    refine (HC.out _).mono ?_
    rintro e w1 ⟨rfl, rfl⟩
    go_wp2
    go_ret3
    exact ⟨none, 0, by simp, fun j hj => absurd hj (by simp), (by repeat (first | exact Gr.refl _ | refine Gr.alloc ?_ | refine Gr.drew ?_ | refine Gr.trans ?_ (by assumption)))⟩
end Go.Proofs.Ytnkbnjkdlnafpaa
