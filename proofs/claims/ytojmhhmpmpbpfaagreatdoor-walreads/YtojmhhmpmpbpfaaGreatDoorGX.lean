/- Parts of these proofs, laid together. -/
import Derived.Test.YtojmhhmpmpbpfaaGreatDoorGD
import Derived.Test.YtojmhhmpmpbpfaaGreatDoorGV
import Derived.RangeFuncNested
import Derived.RangeFuncBound
import Derived.RangeFuncCalls
import Derived.RangeFuncLeaves
import Derived.RangeFuncBox
import Derived.Shelf.Abstract
import Derived.Shelf.RegionOpen
import Derived.WalkKit
import Derived.OwnWalkIn
import Derived.TacticsInMore
import Derived.LoopNIn
import Derived.LoopIn
import Derived.Maps.AppendAt
import Derived.Test.YtojmhhmpmpbpfaaGreatDoorGW
import Derived.Test.YtojmhhmpmpbpfaaGreatDoorGS
import Derived.Test.YtojmhhmpmpbpfaaGreatDoorGI
namespace Go.Proofs.YtojmhhmpmpbpfaaGreatDoor
open Go.RowKit Go.Shelf
attribute [local go_sem] Oper.semAt_some

abbrev encF (x : List UInt8 × Nat) : Array Value := #[.string ⟨x.1.toArray⟩, .int .i64 (x.2 : Int)]
/- what a round keeps: what lay below n₀, and two boxes -/
structure KC (n₀ Bs Bv : Nat) (W W' : World) : Prop where
  below : Below n₀ W W'
  s : W'.heap[Bs]? = W.heap[Bs]?
  v : W'.heap[Bv]? = W.heap[Bv]?
theorem KC.trans {n₀ Bs Bv : Nat} {A B C : World} (h : KC n₀ Bs Bv A B) (k : KC n₀ Bs Bv B C) : KC n₀ Bs Bv A C := ⟨h.below.trans k.below, k.s.trans h.s, k.v.trans h.v⟩

set_option maxRecDepth 100000 in
set_option maxHeartbeats 2000000 in
theorem frames1_in (n : Nat) (hn : 1 ≤ n) (l Bs Bv n₀ : Nat) (s : ByteArray) (v : Int) (hs : s.size ≤ 140737488355328) (hn0 : 0 < n₀) (J Jx : List (List UInt8 × Nat) → World → Prop) (W0 : World)
    (hJ : AbidesFrom W0.heap.size J)
    (hY : ∀ pre x W, J pre W → pre.length < (Sl.frames s.data.toList 0 v).length → YieldAt Fence.wide (n - 1) Tryz.prog l (encF x) W fun e W' =>
      (e = .returned (.bool true) ∧ J (pre ++ [x]) W' ∧ KC n₀ Bs Bv W W') ∨ (e = .returned (.bool false) ∧ Jx (pre ++ [x]) W'))
    (hBs : Boxed W0 Bs 9 (.string s)) (hBv : Boxed W0 Bv 3 (.int .i64 v)) (hT : Tab W0) (h0 : J [] W0) :
    CallsIn Fence.wide n Tryz.prog 101 #[.func (.yield l) #[] #[], .pointer (some ⟨Bs, 0, none⟩), .pointer (some ⟨Bv, 0, none⟩)] W0 fun e W' => (∃ v, e = .returned v) ∧
      ((∃ ys, ys = Sl.frames s.data.toList 0 v ∧ J ys W') ∨ (∃ pre, pre <+: Sl.frames s.data.toList 0 v ∧ Jx pre W')) := by
  have hsz : s.data.toList.length = s.size := by simp
  obtain ⟨xs, hxs⟩ : ∃ xs, Sl.frames s.data.toList 0 v = xs := ⟨_, rfl⟩
  rw [hxs] at hY ⊢
  refine callsIn_of_wp Tryz.func101 rfl trivial ?_ rfl
  simp only [Tryz.ntmps101, List.size_toArray, List.length_cons, List.length_nil, Nat.reduceAdd, Nat.reduceSub, Array.replicate_succ, Array.replicate_zero, List.push_toArray, List.append_toArray, List.nil_append, List.cons_append]
  gi_wp2
  gi_loopw [4] (fun p wr => ∃ (a : Nat) (pre rest : List (List UInt8 × Nat)), p = .int .i64 a ∧ xs = pre ++ rest ∧ rest = Sl.frames s.data.toList a v ∧ a ≤ s.size ∧ J pre wr ∧ Boxed wr Bs 9 (.string s) ∧ Boxed wr Bv 3 (.int .i64 v) ∧ Tab wr)
    (fun p _ => s.size - (intOf p).toNat)
  case atStart => exact ⟨0, [], xs, rfl, rfl, hxs.symm, by omega, h0, hBs, hBv, hT⟩
  case round =>
    obtain ⟨a, pre, rest, rfl, hx, hr, ha, hJs, bs, bv, ht⟩ := hrel
    have hcs := bs.cell
    have hcv := bv.cell
    by_cases hlt : a < s.size
    · have HO : ∀ w : World, Tab w → CallsIn Fence.wide (n - 1) Tryz.prog 57 #[.string s, .int .i64 a, .int .i64 v] w fun e w' => e = .returned (.tuple #[.string ⟨(Sl.openE s.data.toList a v).1.toArray⟩, .int .i64 (Sl.openE s.data.toList a v).2.1, .int .i64 (Sl.openE s.data.toList a v).2.2]) ∧ Gr w w' := fun w h => callsIn_wide.2 (open_any s a v w h hs)
      obtain ⟨⟨b, q, e⟩, ho⟩ : ∃ r, Sl.openE s.data.toList a v = r := ⟨_, rfl⟩
      rw [ho] at HO
      simp only at HO
      by_cases he : e = 0
      · subst he
        have hq := Sl.open_adv _ _ _ _ _ ho
        have hnx := Sl.frames_next s.data.toList a v b q (by omega) ho
        rw [hnx] at hr
        subst hr
        have HOh : Hid (∀ w : World, Tab w → CallsIn Fence.wide (n - 1) Tryz.prog 57 #[.string s, .int .i64 a, .int .i64 v] w fun e w' => e = .returned (.tuple #[.string ⟨b.toArray⟩, .int .i64 q, .int .i64 0]) ∧ Gr w w') := HO
        clear HO ho hnx
        gi_wp2_with fail
        refine ⟨trivial, (HOh.out _ ht).mono ?_⟩
        rintro e w2 ⟨rfl, hg2⟩
        have hJ2 : J pre w2 := hJ pre wr w2 none hJs hg2.grownBy (by simp)
        obtain ⟨fn, tmps, assign, body, hy, hR⟩ := hY pre (b, q) w2 hJ2 (by rw [hx]; simp)
        dsimp only [encF] at hy
        have bs2 : Boxed w2 Bs 9 (.string s) := bs.kept hg2.grownBy (by simp)
        have bv2 : Boxed w2 Bv 3 (.int .i64 v) := bv.kept hg2.grownBy (by simp)
        have hcs2 := bs2.cell
        have hcv2 := bv2.cell
        gi_wp2
        refine hR.mono ?_
        rintro e W3 (⟨rfl, hJ3, hk3⟩ | ⟨rfl, hJx3⟩)
        · gi_wp2
          go_roundw
          case rel => exact ⟨q, pre ++ [(b, q)], _, rfl, by simp [hx], rfl, by omega, hJ3, hk3.s.trans bs2, hk3.v.trans bv2, fun j hj => (hk3.below.cell (p := ⟨0, j, none⟩) hn0).trans (ht.gr hg2 j hj)⟩
          case measure => simp [intOf]; omega
        · gi_wp2
          refine bodyPost_ret (results_none rfl _ _ _) rfl ?_
          exact ⟨⟨_, rfl⟩, .inr ⟨pre ++ [(b, q)], ⟨_, by rw [hx]; simp; rfl⟩, hJx3⟩⟩
      · have hb := Sl.frames_bad s.data.toList a v (by rw [ho]; exact he)
        rw [hb] at hr
        subst hr
        have hne : ((e : Int) != 0) = true := by rw [bne_iff_ne]; omega
        have HOh : Hid (∀ w : World, Tab w → CallsIn Fence.wide (n - 1) Tryz.prog 57 #[.string s, .int .i64 a, .int .i64 v] w fun e' w' => e' = .returned (.tuple #[.string ⟨b.toArray⟩, .int .i64 q, .int .i64 e]) ∧ Gr w w') := HO
        clear HO ho hb
        gi_wp2_with fail
        refine ⟨trivial, (HOh.out _ ht).mono ?_⟩
        rintro e' w2 ⟨rfl, hg2⟩
        have hJ2 : J pre w2 := hJ pre wr w2 none hJs hg2.grownBy (by simp)
        gi_wp2
        refine ⟨fun _ h => (by cases h), ?_⟩
        gi_wp2
        refine bodyPost_ret (results_none rfl _ _ _) rfl ?_
        exact ⟨⟨_, rfl⟩, .inl ⟨pre, by simp [hx], hJ2⟩⟩
    · have hb := Sl.frames_end s.data.toList a v (by omega)
      rw [hb] at hr
      subst hr
      gi_wp2
      go_end0
      exact ⟨⟨_, rfl⟩, .inl ⟨pre, by simp [hx], hJs⟩⟩

set_option maxHeartbeats 1000000 in
theorem frames_in (n : Nat) (s : ByteArray) (v : Int) (w : World) :
    CallsIn Fence.wide n Tryz.prog 82 #[.string s, .int .i64 v] w fun e w' => e = .returned (.func (.func 101) #[] #[.pointer (some ⟨w.heap.size, 0, none⟩), .pointer (some ⟨w.heap.size + 1, 0, none⟩)]) ∧ w' = (w.alloc (.cells #[.string s] 9)).alloc (.cells #[.int .i64 v] 3) := by
  refine callsIn_of_wp Tryz.func82 rfl trivial ?_ rfl
  simp only [Tryz.ntmps82, List.size_toArray, List.length_cons, List.length_nil, Nat.reduceAdd, Nat.reduceSub, Array.replicate_succ, Array.replicate_zero, List.push_toArray, List.append_toArray, List.nil_append, List.cons_append]
  gi_wp2
  go_ret
  exact ⟨by simp, rfl⟩

theorem frames_stops (n : Nat) (hn : 1 ≤ n) (Bs Bv n₀ : Nat) (s : ByteArray) (v : Int) (hs : s.size ≤ 140737488355328) (hn0 : 0 < n₀) (w : World) (hBs : Boxed w Bs 9 (.string s)) (hBv : Boxed w Bv 3 (.int .i64 v)) (hT : Tab w) :
    SeqStopsK Fence.wide n Tryz.prog 101 #[.pointer (some ⟨Bs, 0, none⟩), .pointer (some ⟨Bv, 0, none⟩)] encF (KC n₀ Bs Bv) (fun ys => ys = Sl.frames s.data.toList 0 v) (fun pre => pre <+: Sl.frames s.data.toList 0 v) (Sl.frames s.data.toList 0 v).length w := fun l J Jx W hW hJ _ hY h0 =>
  frames1_in n hn l Bs Bv n₀ s v hs hn0 J Jx W hJ hY ((hW.block Bs hBs.lt).trans hBs) ((hW.block Bv hBv.lt).trans hBv) (fun j hj => (hW.cell (p := ⟨0, j, none⟩) (World.block_lt_of_cell? w _ (hT j hj))).trans (hT j hj)) h0

theorem KC.book {n₀ Bs Bv : Nat} {w : World} (hn : n₀ ≤ w.heap.size) (hs : Bs < w.heap.size) (hv : Bv < w.heap.size) (W : World) (l : Nat) (o o' : Obj) (hl : w.heap.size ≤ l) (h : W.heap[l]? = some o) (h1 : o.isCells = false) (h2 : o.isWalk = false) : KC n₀ Bs Bv W (W.putObj l o') :=
  ⟨belowK_b hn W l o o' hl h h1 h2, World.putObj_heap_other (by omega), World.putObj_heap_other (by omega)⟩

theorem map_snoc (pre : List (List UInt8 × Nat)) (x : List UInt8 × Nat) : (pre ++ [x]).map (·.1) = pre.map (·.1) ++ [x.1] := by simp

/- a round's end: two stores behind an append -/
theorem round_facts {W w1 : World} {B : Nat} {v v' u e : Value} {k m : Nat} {xs ys : List Value} {tmp : Obj}
    (hv : Boxed W B 34 v) (hE : Boxed W (B + 1) 3 e) (hrow : W.ownsRow (B + 4) 9 1 v k xs) (hsz : B + 4 ≤ W.heap.size)
    (hown' : w1.ownsRow (B + 4) 9 1 v' m ys) (hgrow : (W.alloc tmp).grownBy w1 v.ownBlock) :
    Boxed w1 B 34 v ∧ Boxed (w1.setCell ⟨B, 0, none⟩ v') (B + 1) 3 e ∧ Boxed ((w1.setCell ⟨B, 0, none⟩ v').setCell ⟨B + 1, 0, none⟩ u) B 34 v' ∧
    Boxed ((w1.setCell ⟨B, 0, none⟩ v').setCell ⟨B + 1, 0, none⟩ u) (B + 1) 3 u ∧ ((w1.setCell ⟨B, 0, none⟩ v').setCell ⟨B + 1, 0, none⟩ u).ownsRow (B + 4) 9 1 v' m ys ∧
    KeepsOthers W ((w1.setCell ⟨B, 0, none⟩ v').setCell ⟨B + 1, 0, none⟩ u) ∧ KC B (B + 1 + 1) (B + 1 + 1 + 1) W ((w1.setCell ⟨B, 0, none⟩ v').setCell ⟨B + 1, 0, none⟩ u) ∧ B + 4 ≤ ((w1.setCell ⟨B, 0, none⟩ v').setCell ⟨B + 1, 0, none⟩ u).heap.size := by
  have hne : ∀ b, b < B + 4 → some b ≠ v.ownBlock := fun b hb h => by have := (hrow.lt b h.symm).1; omega
  have hne' : ∀ b, b < B + 4 → v'.ownBlock ≠ some b := fun b hb h => by have := (hown'.lt b h).1; omega
  have hs1 : B + 4 ≤ w1.heap.size := by have := hgrow.size; simp at this; omega
  have hv1 : Boxed w1 B 34 v := (hv.alloc tmp).kept hgrow (hne B (by omega))
  have hE1 : Boxed w1 (B + 1) 3 e := (hE.alloc tmp).kept hgrow (hne (B + 1) (by omega))
  have hE2 := hE1.other (B' := B) (by omega) v'
  have g1 := grownBy_setCell' w1 B v'
  have g2 := grownBy_setCell' (w1.setCell ⟨B, 0, none⟩ v') (B + 1) u
  have hblk : ∀ b, b < B + 4 → b ≠ B → b ≠ B + 1 → ((w1.setCell ⟨B, 0, none⟩ v').setCell ⟨B + 1, 0, none⟩ u).heap[b]? = W.heap[b]? := by
    intro b h1 h2 h3
    rw [g2.block b (by have := g1.size; omega) (by simp; omega), g1.block b (by omega) (by simp; omega), hgrow.block b (by simp; omega) (hne b h1)]
    exact Below.heap_alloc W _ b (by omega)
  refine ⟨hv1, hE2, (hv1.set v').other (by omega) u, hE2.set u, (hown'.kept g1 (.inr (hne' B (by omega)))).kept g2 (.inr (hne' (B + 1) (by omega))), ?_, ⟨?_, hblk _ (by omega) (by omega) (by omega), hblk _ (by omega) (by omega) (by omega)⟩, by have := g1.size; have := g2.size; omega⟩
  · refine (((KeepsOthers.alloc W tmp).trans (KeepsOthers.of_grownBy hgrow fun j o ej hj => ?_)).trans (KeepsOthers.setCell _ _ _)).trans (KeepsOthers.setCell _ _ _)
    rcases (hrow.alloc tmp).2 with ⟨rfl, _⟩ | ⟨g, cap, cur, rfl, _, hgb, _⟩
    · simp [Value.ownBlock] at ej
    · obtain rfl : g = j := by simpa [Value.ownBlock] using ej
      rw [hgb] at hj; cases hj; rfl
  · exact ((((Below.refl B W).alloc (by omega) tmp).grown hgrow (by simp; omega) fun j ej => by have := (hrow.lt j ej).1; omega).setCell (p := ⟨B, 0, none⟩) (Nat.le_refl _) v').setCell (p := ⟨B + 1, 0, none⟩) (by simp) u

set_option maxRecDepth 100000 in
set_option maxHeartbeats 4000000 in
theorem cut_fresh (s : ByteArray) (v : Int) (w : World) (hT : Tab w) (hs : s.size ≤ 1000000) :
    Calls Tryz.prog 59 #[.string s, .int .i64 v] w fun e w' => ∃ ad cap, e = .returned (.tuple #[.slice ad (Sl.cutE s.data.toList v).1.length cap, .int .i64 (Sl.cutE s.data.toList v).2.1, .int .i64 (Sl.cutE s.data.toList v).2.2]) ∧
      StrsAt w' ad ((Sl.cutE s.data.toList v).1.map mkT) ∧ (∀ p, ad = some p → w.heap.size ≤ p.block) ∧ Gr w w' := by
  obtain ⟨i0, hi, hz0, hz1, hz2⟩ := info_parts info9
  have hsz : s.data.toList.length = s.size := by simp
  have h00 : 0 < w.heap.size := World.block_lt_of_cell? w _ (hT 0 (by omega))
  have hlen := Sl.frames_len _ s.data.toList 0 v (Nat.le_refl _)
  refine (callsIn_wide (n := 3)).1 ?_
  refine callsIn_of_wp_marks Tryz.func59 rfl trivial ?_ rfl
  simp only [Tryz.ntmps59, List.size_toArray, List.length_cons, List.length_nil, Nat.reduceAdd, Nat.reduceSub, Array.replicate_succ, Array.replicate_zero, List.push_toArray, List.append_toArray, List.nil_append, List.cons_append]
  gi_wp2_with fail
  refine ⟨trivial, (frames_in _ s v _).mono ?_⟩
  rintro e w' ⟨rfl, rfl⟩
  gi_wp2_with fail
  obtain ⟨W0, hW0⟩ : ∃ W0, (((w.alloc (.cells #[.slice none 0 0] 34)).alloc (.cells #[.int .i64 0] 3)).alloc (.cells #[.string s] 9)).alloc (.cells #[.int .i64 v] 3) = W0 := ⟨_, rfl⟩
  have hsz0 : W0.heap.size = w.heap.size + 4 := by rw [← hW0]; simp
  have hB0 : Below w.heap.size w W0 := by
    rw [← hW0]
    exact ((((Below.refl _ w).alloc (Nat.le_refl _) _).alloc (by simp) _).alloc (by simp; omega) _).alloc (by simp; omega) _
  have bO : Boxed W0 w.heap.size 34 (.slice none 0 0) := by
    rw [← hW0]; exact (((Boxed.new w 34 _).alloc _).alloc _).alloc _
  have bE : Boxed W0 (w.heap.size + 1) 3 (.int .i64 0) := by
    have := Boxed.new (w.alloc (.cells #[.slice none 0 0] 34)) 3 (.int .i64 0)
    rw [World.size_alloc] at this
    rw [← hW0]; exact (this.alloc _).alloc _
  have bS : Boxed W0 (w.heap.size + 1 + 1) 9 (.string s) := by
    have := Boxed.new ((w.alloc (.cells #[.slice none 0 0] 34)).alloc (.cells #[.int .i64 0] 3)) 9 (.string s)
    rw [World.size_alloc, World.size_alloc] at this
    rw [← hW0]; exact this.alloc _
  have bV : Boxed W0 (w.heap.size + 1 + 1 + 1) 3 (.int .i64 v) := by
    have := Boxed.new (((w.alloc (.cells #[.slice none 0 0] 34)).alloc (.cells #[.int .i64 0] 3)).alloc (.cells #[.string s] 9)) 3 (.int .i64 v)
    rw [World.size_alloc, World.size_alloc, World.size_alloc] at this
    rw [← hW0]; exact this
  have hTB : ∀ W, Below w.heap.size w W → Tab W := fun W h => hT.gr ⟨h⟩
  rw [hW0]
  clear hW0
  refine wpIn_rangeFunc_ownG rfl (by omega) (gf := 101) (lb := #[.pointer (some ⟨w.heap.size + 1 + 1, 0, none⟩), .pointer (some ⟨w.heap.size + 1 + 1 + 1, 0, none⟩)]) rfl trivial (enters_of Tryz.func101 (by kernel_rfl) rfl)
    (frames_stops 2 (by omega) (w.heap.size + 1 + 1) (w.heap.size + 1 + 1 + 1) w.heap.size s v (by omega) h00 W0 bS bV (hTB W0 hB0)) (fun h k => h.trans k) (KC.book (by omega) (by omega) (by omega)) (Below.refl _ _) (fun _ => rfl)
    (fun pre W => (∃ vv, Boxed W w.heap.size 34 vv ∧ W.ownsRow (w.heap.size + 4) 9 1 vv pre.length (strV (pre.map (·.1))) ∧ True) ∧ (Boxed W (w.heap.size + 1) 3 (.int .i64 (Sl.lastEnd 0 pre : Nat)) ∧ (Below w.heap.size w W ∧ w.heap.size + 4 ≤ W.heap.size)))
    (fun _ _ _ => False)
    (OwnFrom.and (Own.from (holdsRow_own (w.heap.size + 4) w.heap.size 34 9 1 (fun pre : List (List UInt8 × Nat) => pre.length) (fun pre => strV (pre.map (·.1))) (fun _ _ => True)) _)
      (OwnFrom.and (Own.from (boxed_own (w.heap.size + 1) 3 (fun pre : List (List UInt8 × Nat) => Value.int .i64 (Sl.lastEnd 0 pre : Nat))) _)
        (OwnFrom.and (ownFrom_below (Nat.le_refl _) (by omega)) (fun _ _ _ _ h hg _ => Nat.le_trans h hg.size))))
    (fun _ _ _ _ _ hs _ _ => hs)
    ⟨⟨_, bO, World.ownsRow_nil _ _ _ _, trivial⟩, bE, hB0, by omega⟩
    (fun x => { tmps := #[.string s, .int .i64 v, undef, undef, .slice none 0 0, .int .i64 0, .int .i64 0, .pointer (some ⟨w.heap.size, 0, none⟩), .pointer (some ⟨w.heap.size + 1, 0, none⟩), .string ⟨x.1.toArray⟩, .int .i64 (x.2 : Int), undef, undef, undef, .string s, .int .i64 v, .func (.func 101) #[] #[.pointer (some ⟨w.heap.size + 1 + 1, 0, none⟩), .pointer (some ⟨w.heap.size + 1 + 1 + 1, 0, none⟩)], .string ⟨x.1.toArray⟩, .int .i64 (x.2 : Int), undef, undef, undef, undef, undef, undef, undef, undef, undef, undef, undef, undef, undef, undef, undef, undef, undef, undef, undef, undef, undef, undef], defers := [] }) ?assign ?body ?done ?stop
  case assign =>
    intro l x W K hK
    gi_wp2
    exact hK
  case body =>
    rintro l pre x W ⟨⟨vv, hv, hrow, _⟩, hE, hB, hsW⟩ hlt
    have hc := hv.cell
    have hm1 : pre.length + 1 ≤ maxLen := by unfold maxLen; omega
    gi_wp2_with (gi_at_builtin; refine wpListIn_append_own _ rfl _ _ 34 rfl (w.heap.size + 4) 9 i0 (.string ⟨#[]⟩) 1 16 Tryz.underlying34 hi hz0 hz1 hz2 rfl (by decide) _ _ _ rfl (hrow.alloc _) ⟨W.heap.size, 0, none⟩ 1 1 [.string ⟨x.1.toArray⟩] rfl rfl (cell_one_new _ _ _) (by simp [Value.oneCell']) (by omega) (by omega) (by simp; omega) ?_; intro v' w1 hown' hgrow _; obtain ⟨g', cap', rfl⟩ := ownsRow_succ hown'; obtain ⟨r1, r2, r3, r4, r5, r6, r7, r8⟩ := round_facts (u := .int .i64 (x.2 : Int)) hv hE hrow hsW hown' hgrow; have hc1 := r1.cell; have hf1 := r1.frozen; have hc2 := r2.cell; have hf2 := r2.frozen)
    exact ⟨r6.from _, r7, ⟨⟨_, r3, by rw [map_snoc, strV_snoc, List.length_append]; exact r5, trivial⟩, by rw [Sl.lastEnd_snoc]; exact r4, hB.trans r7.below, r8⟩⟩
  case done =>
    rintro D ys W hD rfl ⟨⟨vv, hv, hrow, _⟩, hE, hB, hsW⟩ hK
    have hc := hv.cell
    have hcE := hE.cell
    have hTW := hTB W hB
    have hle := Sl.lastEnd_le _ s.data.toList 0 v (Nat.le_refl _) (by omega)
    have hmx : Tryz.prog.follows .mixedOrders = true := by kernel_rfl
    obtain ⟨xs, hxs⟩ : ∃ xs, Sl.frames s.data.toList 0 v = xs := ⟨_, rfl⟩
    have HC : Hid (Sl.cutE s.data.toList v = (xs.map (·.1), Sl.lastEnd 0 xs, if Sl.lastEnd 0 xs = s.data.toList.length then 0 else (Sl.openE s.data.toList (Sl.lastEnd 0 xs) v).2.2)) := by
      show _ = _
      unfold Sl.cutE; rw [hxs]
    rw [hxs] at hcE hrow hle hE
    have hrow' : W.ownsRow (w.heap.size + 4) 9 1 vv (xs.map (·.1)).length (strV (xs.map (·.1))) := by rw [List.length_map]; exact hrow
    by_cases hend : Sl.lastEnd 0 xs = s.size
    · have hq : (((Sl.lastEnd 0 xs : Nat) : Int) == (s.size : Int)) = true := by rw [hend]; simp
      obtain ⟨ad, cap, rfl, hst⟩ := own_strs (ownsRow_putObj hrow' (.deferred none) hK rfl)
      have hfrs : ∀ p, ad = some p → w.heap.size ≤ p.block := fun p e => by subst e; have := (hrow'.lt p.block rfl).1; omega
      have hfin : Gr w (W.putObj D (.deferred none)) := ⟨hB.trans (belowK_b (w := w) (Nat.le_refl _) W D _ _ (by omega) hK rfl rfl)⟩
      have HC' : Hid (Sl.cutE s.data.toList v = (xs.map (·.1), s.size, 0)) := by
        show _ = _
        rw [HC.out, hend, if_pos hsz.symm]
      clear HC hrow hrow' hxs hle hlen
      gi_wp2
      refine Code.wpIn_mono NoPanic.imp ?_
      gi_region_with_o (fail)
      all_goals refine NoPanic.normal ?_
      all_goals gi_wp2
      all_goals refine ⟨by simp, .inl ⟨_, _, rfl, run_takeDeferred hK, ?_⟩⟩
      all_goals refine ⟨_, results_tmp3 rfl _ _ _, ?_⟩
      all_goals rw [HC'.out]
      all_goals refine ⟨ad, cap, ?_, hst, hfrs, ?_⟩
      all_goals first | exact hfin | exact hfin.drew | exact hfin.drew.drew | (simp only [List.length_map]; rfl)
    · have hq : (((Sl.lastEnd 0 xs : Nat) : Int) == (s.size : Int)) = false := by rw [beq_eq_false_iff_ne]; omega
      obtain ⟨⟨ob, oq, oe⟩, ho⟩ : ∃ r, Sl.openE s.data.toList (Sl.lastEnd 0 xs) v = r := ⟨_, rfl⟩
      have HO : Hid (∀ w : World, Tab w → CallsIn Fence.wide 2 Tryz.prog 57 #[.string s, .int .i64 (Sl.lastEnd 0 xs : Nat), .int .i64 v] w fun e w' => e = .returned (.tuple #[.string ⟨ob.toArray⟩, .int .i64 oq, .int .i64 oe]) ∧ Gr w w') := by
        intro w h
        have := open_any s (Sl.lastEnd 0 xs : Nat) v w h (by omega)
        rw [ho] at this
        exact callsIn_wide.2 this
      have HC' : Hid (Sl.cutE s.data.toList v = (xs.map (·.1), Sl.lastEnd 0 xs, oe)) := by
        show _ = _
        rw [HC.out, if_neg (by omega), ho]
      clear HC hrow hxs hle hlen ho
      generalize Sl.lastEnd 0 xs = le at *
      gi_wp2_with fail
      refine ⟨trivial, (HO.out _ hTW).mono ?_⟩
      rintro e w2 ⟨rfl, hg2⟩
      have hK2 : w2.heap[D]? = some (.deferred (some [])) := (hg2.below.block D (Array.getElem?_eq_some_iff.1 hK).1).trans hK
      have hrow2 := hrow'.kept hg2.grownBy (by cases vv.ownBlock with
        | none => exact Or.inl rfl
        | some q => exact Or.inr (by simp))
      have hc2 : w2.cell? ⟨w.heap.size, 0, none⟩ = some vv := hg2.keep hc
      have hcE2 : w2.cell? ⟨w.heap.size + 1, 0, none⟩ = some (.int .i64 le) := hg2.keep hcE
      obtain ⟨ad, cap, rfl, hst⟩ := own_strs (ownsRow_putObj hrow2 (.deferred none) hK2 rfl)
      have hfrs : ∀ p, ad = some p → w.heap.size ≤ p.block := fun p e => by subst e; have := (hrow2.lt p.block rfl).1; omega
      have hfin : Gr w (w2.putObj D (.deferred none)) := ⟨(hB.trans (hg2.below.mono hB.size)).trans (belowK_b (w := w) (Nat.le_refl _) w2 D _ _ (by omega) hK2 rfl rfl)⟩
      clear hc hcE hrow' hrow2
      gi_wp2
      refine Code.wpIn_mono NoPanic.imp ?_
      gi_region_with_o (fail)
      all_goals refine NoPanic.normal ?_
      all_goals gi_wp2
      all_goals refine ⟨by simp, .inl ⟨_, _, rfl, run_takeDeferred hK2, ?_⟩⟩
      all_goals refine ⟨_, results_tmp3 rfl _ _ _, ?_⟩
      all_goals rw [HC'.out]
      all_goals refine ⟨ad, cap, ?_, hst, hfrs, ?_⟩
      all_goals first | exact hfin | exact hfin.drew | exact hfin.drew.drew | (simp only [List.length_map]; rfl)
  case stop =>
    rintro D c pre W _ _ h _
    exact h.elim
theorem scut_any (s : ByteArray) (v : Int) (w : World) (hT : Tab w) (hs : s.size ≤ 1000000) :
    Calls Tryz.prog 59 #[.string s, .int .i64 v] w fun e w' => ∃ ad cap, e = .returned (.tuple #[.slice ad (Sl.cutE s.data.toList v).1.length cap, .int .i64 (Sl.cutE s.data.toList v).2.1, .int .i64 (Sl.cutE s.data.toList v).2.2]) ∧
      StrsAt w' ad ((Sl.cutE s.data.toList v).1.map mkT) ∧ Gr w w' :=
  (cut_fresh s v w hT hs).mono (by rintro e w2 ⟨ad, cap, rfl, h1, _, h2⟩; exact ⟨ad, cap, rfl, h1, h2⟩)
end Go.Proofs.YtojmhhmpmpbpfaaGreatDoor
namespace Go.Proofs.YtojmhhmpmpbpfaaGreatDoor
open Go.RowKit
open Dk (Fl zf)

theorem slice_not (a : Option Addr) (n c : Nat) : ∀ s, Value.slice a n c ≠ .string s := by intro s h; cases h
set_option maxHeartbeats 2000000 in
set_option maxRecDepth 100000 in
theorem look_rise (L : List Fl) (ad : Option Addr) (cap : Nat) (w : World) (hL : FsAt w ad cap L) (hr : Sg.rise L = false) :
    Calls Tryz.prog 30 #[.slice ad L.length cap] w fun e w' => LkR (Sg.bad 2) w e w' := by
  have HR : Hid (∀ w', Gr w w' → Calls Tryz.prog 54 #[.slice ad L.length cap] w' fun e w2 => e = .returned (.bool false) ∧ Gr w' w2) := fun w' g => by
    have := rise_any L ad cap w' (hL.gr g)
    rw [hr] at this
    exact this
  clear hL
  go_enter Tryz.func30, Tryz.ntmps30
  go_wp2_with fail
  refine (HR.out _ (by repeat (first | exact Gr.refl _ | refine Gr.alloc ?_ | refine Gr.drew ?_ | refine Gr.trans ?_ (by assumption)))).mono ?_
  rintro e w1 ⟨rfl, hg1⟩
  have B1 := (Bx4.new w (.int .i64 0) (.int .i64 0) (.slice none 0 0) (.slice none 0 0) 71 _ rfl).gr hg1
  have G1 := Lib.hid ((Gr.refl w).alloc.trans hg1)
  clear hg1
  obtain ⟨c0, c1, c2, c3, f0, f1, f2, f3, hlt⟩ := B1
  go_wp2
  exact bodyPost_ret (v := .tuple #[.agg #[.int .i64 0, .int .i64 0, .slice none 0 0, .slice none 0 0], .int .i64 2]) (by simp [results, Tryz.results30, go_sem, c0, c1, c2, c3]) rfl
    ⟨none, 0, none, 0, rfl, fun j h => absurd h (by simp [Sg.bad]), fun j h => absurd h (by simp [Sg.bad]), gr_fill G1.out (Nat.le_refl _) _ _ _ _, fun _ e => (by cases e), fun _ e => (by cases e)⟩
set_option maxHeartbeats 2000000 in
set_option maxRecDepth 100000 in
theorem look_bad (L : List Fl) (ad : Option Addr) (cap : Nat) (w : World) (hT : Tab w) (hL : FsAt w ad cap L) (hr : Sg.rise L = true) (hw : Sg.lw L L.length = (-1, 170)) :
    Calls Tryz.prog 30 #[.slice ad L.length cap] w fun e w' => LkR (Sg.bad 170) w e w' := by
  have HR : Hid (∀ w', Gr w w' → Calls Tryz.prog 54 #[.slice ad L.length cap] w' fun e w2 => e = .returned (.bool true) ∧ Gr w' w2) := fun w' g => by
    have := rise_any L ad cap w' (hL.gr g)
    rw [hr] at this
    exact this
  have HW : Hid (∀ w', Gr w w' → Calls Tryz.prog 55 #[.slice ad L.length cap, .func (.func 56) #[] #[]] w' fun e w2 => e = .returned (.tuple #[.int .i64 (-1), .int .i64 170]) ∧ Gr w' w2) := fun w' g => by
    have := lastWhole_any L ad cap w' (hT.gr g) (hL.gr g)
    rw [hw] at this
    exact this
  clear hL hT
  go_enter Tryz.func30, Tryz.ntmps30
  go_wp2_with fail
  refine (HR.out _ (by repeat (first | exact Gr.refl _ | refine Gr.alloc ?_ | refine Gr.drew ?_ | refine Gr.trans ?_ (by assumption)))).mono ?_
  rintro e w1 ⟨rfl, hg1⟩
  go_wp2_with fail
  refine (HW.out _ (by repeat (first | exact Gr.refl _ | refine Gr.alloc ?_ | refine Gr.drew ?_ | refine Gr.trans ?_ (by assumption)))).mono ?_
  rintro e w2 ⟨rfl, hg2⟩
  have B1 := ((Bx4.new w (.int .i64 0) (.int .i64 0) (.slice none 0 0) (.slice none 0 0) 71 _ rfl).gr hg1).gr hg2
  have G1 := Lib.hid (((Gr.refl w).alloc.trans hg1).trans hg2)
  clear hg1 hg2
  obtain ⟨c0, c1, c2, c3, f0, f1, f2, f3, hlt⟩ := B1
  go_wp2
  exact bodyPost_ret (v := .tuple #[.agg #[.int .i64 0, .int .i64 0, .slice none 0 0, .slice none 0 0], .int .i64 170]) (by simp [results, Tryz.results30, go_sem, c0, c1, c2, c3]) rfl
    ⟨none, 0, none, 0, rfl, fun j h => absurd h (by simp [Sg.bad]), fun j h => absurd h (by simp [Sg.bad]), gr_fill G1.out (Nat.le_refl _) _ _ _ _, fun _ e => (by cases e), fun _ e => (by cases e)⟩
set_option maxHeartbeats 2000000 in
set_option maxRecDepth 100000 in
theorem look_none (L : List Fl) (ad : Option Addr) (cap : Nat) (w : World) (hT : Tab w) (hL : FsAt w ad cap L) (hr : Sg.rise L = true) (hw : Sg.lw L L.length = (-1, 0)) :
    Calls Tryz.prog 30 #[.slice ad L.length cap] w fun e w' => LkR ⟨-1, 0, [], Sg.nums L, 0⟩ w e w' := by
  have HR : Hid (∀ w', Gr w w' → Calls Tryz.prog 54 #[.slice ad L.length cap] w' fun e w2 => e = .returned (.bool true) ∧ Gr w' w2) := fun w' g => by
    have := rise_any L ad cap w' (hL.gr g)
    rw [hr] at this
    exact this
  have HW : Hid (∀ w', Gr w w' → Calls Tryz.prog 55 #[.slice ad L.length cap, .func (.func 56) #[] #[]] w' fun e w2 => e = .returned (.tuple #[.int .i64 (-1), .int .i64 0]) ∧ Gr w' w2) := fun w' g => by
    have := lastWhole_any L ad cap w' (hT.gr g) (hL.gr g)
    rw [hw] at this
    exact this
  have HN : Hid (∀ (w' : World) (B : Nat), Gr w w' → w'.cell? ⟨B, 0, none⟩ = some (.slice ad L.length cap) → Calls Tryz.prog 58 #[.slice (some ⟨B, 0, none⟩) 1 1] w' fun e w2 => ∃ ad2 cap2, e = .returned (.slice ad2 (Sg.nums L).length cap2) ∧ IntsAt w2 ad2 (Sg.nums L) ∧ (∀ p, ad2 = some p → w'.heap.size ≤ p.block) ∧ Gr w' w2) := fun w' B g hc => by
    have := numbers_any [(ad, cap, L)] (some ⟨B, 0, none⟩) 1 w' (by
      intro j u hu
      match j, hu with
      | 0, hu => exact ⟨B, 0, rfl, World.block_lt_of_cell? _ _ hc, by simp [fsV] at hu; subst hu; exact hc⟩) (by simp) (by
      intro x hx
      simp at hx
      subst hx
      exact ⟨hL.row.gr g, hL.len⟩)
    rw [show allN [(ad, cap, L)] = Sg.nums L by simp [allN]] at this
    exact this
  clear hL hT
  go_enter Tryz.func30, Tryz.ntmps30
  go_wp2_with fail
  refine (HR.out _ (by repeat (first | exact Gr.refl _ | refine Gr.alloc ?_ | refine Gr.drew ?_ | refine Gr.trans ?_ (by assumption)))).mono ?_
  rintro e w1 ⟨rfl, hg1⟩
  go_wp2_with fail
  refine (HW.out _ (by repeat (first | exact Gr.refl _ | refine Gr.alloc ?_ | refine Gr.drew ?_ | refine Gr.trans ?_ (by assumption)))).mono ?_
  rintro e w2 ⟨rfl, hg2⟩
  go_wp2_with fail
  refine (HN.out _ w2.heap.size (by repeat (first | exact Gr.refl _ | refine Gr.alloc ?_ | refine Gr.drew ?_ | refine Gr.trans ?_ (by assumption))) (by simp)).mono ?_
  rintro e w3 ⟨ad2, cap2, rfl, hia, hfr, hg3⟩
  have B1 := (((Bx4.new w (.int .i64 0) (.int .i64 0) (.slice none 0 0) (.slice none 0 0) 71 _ rfl).gr hg1).gr hg2).gr ((Gr.refl _).alloc.trans hg3)
  have G1 := Lib.hid (((Gr.refl w).alloc.trans hg1).trans hg2)
  have G3 := Lib.hid (G1.out.alloc.trans hg3)
  have hs2 := G1.out.size
  have hs3 : w.heap.size < w2.heap.size := by have := hg1.size; have := hg2.size; simp at *; omega
  have FA := fill_all (ab := none) (B := []) B1 (fun j h => absurd h (by simp)) hia (fun p e => by have := hfr p e; simp at this; omega) (-1) 0 none 0 0 (.slice ad2 (Sg.nums L).length cap2)
  have HFA := Lib.hid FA
  have HFr : Hid (∀ p, ad2 = some p → w.heap.size ≤ p.block) := fun p e => by have := hfr p e; simp at this; omega
  clear hg1 hg2 hg3 hia hfr FA
  obtain ⟨c0, c1, c2, c3, f0, f1, f2, f3, hlt⟩ := B1
  go_wp2
  exact bodyPost_ret (v := .tuple #[.agg #[.int .i64 (-1), .int .i64 0, .slice none 0 0, .slice ad2 (Sg.nums L).length cap2], .int .i64 0]) (by simp [results, Tryz.results30, go_sem, c0, c1, c2, c3]) rfl
    ⟨none, 0, ad2, cap2, rfl, HFA.out.1, HFA.out.2, gr_fill G3.out (Nat.le_refl _) _ _ _ _, fun _ e => (by cases e), HFr.out⟩
end Go.Proofs.YtojmhhmpmpbpfaaGreatDoor
