/- What the proof is made of, part 11. -/
import Derived.Test.YtgidkmipecfjhaaTLLDoes10
import Derived.Lib.Overlaps
import Derived.Lib.AppendZerosOnto
import Derived.Laws.CopyRow
import Derived.Laws.Externs
import Derived.Laws.NewBlocks
import Derived.Deep.Draws
import Derived.Deep.RegionHeld3
import Derived.Deep.DeepCutAuto
namespace Go.Proofs.Ytgidkmipecfjhaa
open Go.RowKit
open Led (Acc Mk)
set_option maxHeartbeats 4000000 in
set_option maxRecDepth 100000 in
theorem insM_shift (M : List Mk) (x : Mk) (i cap g vb : Nat) (cur : Array Value) (w : World) (hi : i < M.length) (hroom : M.length + 1 ≤ cap) (hvb : vb ≠ g) (hn : M.length ≤ 1000000)
    (hg : w.heap[g]? = some (.cells cur 64 (0, 0))) (hcs : cur.size = cap * 5) (htk : cur.toList.take (M.length * 5) = M.flatMap mkC) (hv : w.heap[vb]? = some (.cells (mkC x).toArray 64 (0, 0))) :
    Calls Try.prog 84 #[.slice (some ⟨g, 0, none⟩) M.length cap, .int .i64 i, .slice (some ⟨vb, 0, none⟩) 1 1] w fun e w' => e = .returned (.slice (some ⟨g, 0, none⟩) (M.length + 1) cap) ∧
      (∃ cur', w'.heap[g]? = some (.cells cur' 64 (0, 0)) ∧ cur'.size = cap * 5 ∧ cur'.toList.take ((M.length + 1) * 5) = (M.take i ++ x :: M.drop i).flatMap mkC) ∧ w.grownBy w' (some g) := by
  obtain ⟨i0, hi0, hz0, hz1, hz2⟩ := info_parts infoMk
  have hsz : (Try.prog.info? 64).map (·.size) = some 5 := by rw [hi0]; simp [hz1]
  have hut := Try.underlying23
  have hz2 : ¬ ((i : Int) = (M.length : Int)) := by omega
  have hov : ∀ lb cb, (callFunc 96 #[.slice (some ⟨vb, 0, none⟩) 1 1, .slice (some ⟨g, (i + 1) * 5, none⟩) lb cb]).run Try.prog w = .ok (.value (.bool false)) w := fun lb cb => by
    rw [run_callFunc_extern Try.func96 (by kernel_rfl) (by kernel_rfl) (by kernel_rfl) (e := Extern.SlicesOverlaps.overlaps #[23, 23] #[4]) (by kernel_rfl),
      Lib.run_overlaps_apart w 23 4 64 hut 5 (fun _ => by kernel_rfl) ⟨vb, 0, none⟩ ⟨g, (i + 1) * 5, none⟩ 1 1 lb cb hvb 64 64 5 (cap * 5) (by unfold World.shape?; rw [hv]; rfl) (by unfold World.shape?; rw [hg]; simp [hcs]) (by omega) (by simp [World.frozen?, hv]) (by simp [World.frozen?, hv])]
    rfl
  have hZl : ((M.flatMap mkC).drop (i * 5)).length = (M.length - i) * 5 := by rw [List.length_drop, flat_len mkC_len, Nat.sub_mul]
  have hXl := mkC_len x
  have hcl : cur.toList.length = cap * 5 := by simpa using hcs
  have hcell : ∀ j v, (M.flatMap mkC)[j]? = some v → w.cell? ⟨g, j, none⟩ = some v := fun j v h => by
    rw [cell_of_row w g j cur _ _ hg]
    rw [← htk, List.getElem?_take] at h
    split at h
    · simpa using h
    · cases h
  have hcp1 : ∀ ty dc sc, (Builtin.copy_ #[23, 23] ty #[.slice (some ⟨g, (i + 1) * 5, none⟩) (M.length - i) dc, .slice (some ⟨g, i * 5, none⟩) (M.length + 1 - i) sc]).run Try.prog w.drew =
      .ok (goInt (Nat.min (M.length + 1 - i) (M.length - i))) (w.drew.setRow g (cur.toList.take ((i + 1) * 5) ++ (M.flatMap mkC).drop (i * 5) ++ cur.toList.drop ((i + 1) * 5 + ((M.flatMap mkC).drop (i * 5)).length)).toArray) := fun ty dc sc =>
    run_copy_big w.drew 23 23 ty 64 5 g ((i + 1) * 5) _ dc ⟨g, i * 5, none⟩ _ sc cur 64 _ hut hsz hg (by rw [hZl]; simp only [Nat.min_def]; split <;> (congr 1 <;> omega))
      (fun j v h => by rw [Addr.add_lit]; exact hcell _ v (by rwa [List.getElem?_drop] at h)) (by
        rw [hZl, hcs]
        have e : (i + 1) * 5 + (M.length - i) * 5 = (M.length + 1) * 5 := by rw [← Nat.add_mul]; congr 1; omega
        rw [e]; exact Nat.mul_le_mul_right _ hroom) (fun v h => mk_one M v (List.mem_of_mem_drop h))
  obtain ⟨C1, hC1⟩ : ∃ C1, C1 = (cur.toList.take ((i + 1) * 5) ++ (M.flatMap mkC).drop (i * 5) ++ cur.toList.drop ((i + 1) * 5 + ((M.flatMap mkC).drop (i * 5)).length)) := ⟨_, rfl⟩
  rw [← hC1] at hcp1
  have hfit : (i + 1) * 5 + ((M.flatMap mkC).drop (i * 5)).length ≤ cur.toList.length := by
    rw [hZl, hcl]
    have e : (i + 1) * 5 + (M.length - i) * 5 = (M.length + 1) * 5 := by rw [← Nat.add_mul]; congr 1; omega
    rw [e]; exact Nat.mul_le_mul_right _ hroom
  have hC1l : C1.length = cap * 5 := by rw [hC1, seg_len _ _ _ hfit, hcl]
  have hg1 : ∀ W : World, W.heap = (w.drew.setRow g C1.toArray).heap → W.heap[g]? = some (.cells C1.toArray 64 (0, 0)) := fun W h => by rw [h]; exact setRow_heap w.drew g cur _ _ _ hg
  have hv1 : ∀ W : World, W.heap = (w.drew.setRow g C1.toArray).heap → W.heap[vb]? = some (.cells (mkC x).toArray 64 (0, 0)) := fun W h => by
    rw [h]
    have := (setRow_grown w.drew g C1.toArray).block vb (by
      rcases Nat.lt_or_ge vb w.heap.size with h | h
      · exact h
      · rw [Array.getElem?_eq_none h] at hv; cases hv) (fun e => hvb (by cases e; rfl))
    rw [this]; exact hv
  have hcp2 : ∀ (W : World), W.heap = (w.drew.setRow g C1.toArray).heap → ∀ ty dc, (Builtin.copy_ #[23, 23] ty #[.slice (some ⟨g, i * 5, none⟩) (M.length + 1 - i) dc, .slice (some ⟨vb, 0, none⟩) 1 1]).run Try.prog W =
      .ok (goInt (Nat.min 1 (M.length + 1 - i))) (W.setRow g (C1.toArray.toList.take (i * 5) ++ mkC x ++ C1.toArray.toList.drop (i * 5 + (mkC x).length)).toArray) := fun W hW ty dc =>
    run_copy_big W 23 23 ty 64 5 g (i * 5) _ dc ⟨vb, 0, none⟩ 1 1 C1.toArray 64 (mkC x) hut hsz (hg1 W hW) (by rw [hXl]; simp only [Nat.min_def]; split <;> omega)
      (fun j v h => by rw [Addr.add_lit, Nat.zero_add, cell_of_row W vb j _ _ _ (hv1 W hW)]; simpa using h) (by
        rw [hXl, List.size_toArray, hC1l]
        have e : i * 5 + 5 = (i + 1) * 5 := by rw [Nat.add_mul, Nat.one_mul]
        rw [e]; exact Nat.mul_le_mul_right _ (by omega)) (fun v h => mk_one [x] v (by simpa using h))
  have hw1 : IntKind.i64.wrap ((i : Int) + 1) = (i : Int) + 1 := by rw [IntKind.wrap_i64]; omega
  have hb1 : (0 : Int) ≤ (i : Int) + 1 := by omega
  have htn : ((i : Int) + 1).toNat = i + 1 := by omega
  have hb2 : ¬ (cap = i + 1) := by omega
  have hb3 : (i : Int) ≤ (M.length : Int) + 1 := by omega
  have hb4 : ¬ (cap = i) := by omega
  have hb5 : (i : Int) + 1 ≤ (M.length : Int) + 1 := by omega
  have HFin : Hid (∀ W : World, W.heap = ((w.drew.setRow g C1.toArray).setRow g (C1.toArray.toList.take (i * 5) ++ mkC x ++ C1.toArray.toList.drop (i * 5 + (mkC x).length)).toArray).heap → ∃ cur', W.heap[g]? = some (.cells cur' 64 (0, 0)) ∧ cur'.size = cap * 5 ∧ cur'.toList.take ((M.length + 1) * 5) = (M.take i ++ x :: M.drop i).flatMap mkC) := by
    intro W hW
    refine ⟨_, by rw [hW]; exact setRow_heap _ g _ _ _ _ (hg1 _ rfl), ?_, ?_⟩
    · rw [List.size_toArray, seg_len _ _ _ (by
        rw [hXl]
        show i * 5 + 5 ≤ C1.length
        rw [hC1l]
        have e : i * 5 + 5 = (i + 1) * 5 := by rw [Nat.add_mul, Nat.one_mul]
        rw [e]; exact Nat.mul_le_mul_right _ (by omega))]
      exact hC1l
    · rw [flat_ins mkC_len M i (by omega) x]
      have e1 : (i + 1) * 5 = i * 5 + 5 := by rw [Nat.add_mul, Nat.one_mul]
      have hs := seg_shift cur.toList (mkC x) ((M.flatMap mkC).drop (i * 5)) (i * 5) 5 hXl (by rw [← e1]; exact hfit)
      have e2 : i * 5 + 5 + ((M.flatMap mkC).drop (i * 5)).length = (M.length + 1) * 5 := by rw [← e1, hZl, ← Nat.add_mul]; congr 1; omega
      have e3 : cur.toList.take (i * 5) = (M.flatMap mkC).take (i * 5) := by rw [← htk, List.take_take, Nat.min_eq_left (Nat.mul_le_mul_right _ (by omega))]
      rw [e2, ← e1, e3, ← e2, ← e1, ← hC1, e1, e2] at hs
      exact hs
  clear hcell hfit hC1l hg1 hv1 hC1 hcl hZl hXl htk hv hcs
  go_enter Try.func84, Try.ntmps84
  go_wp2_with (simp only [hov])
  refine wp_region_held_drew (S := (fun _ => True)) (by kernel_rfl) (by trivial) (fun hHeld => ?_)
  refine ty 0 69 hHeld ?_
  refine ty 1 70 hHeld ?_
  refine ty 2 71 hHeld ?_
  refine ty 3 72 hHeld ?_
  refine ty 4 73 hHeld ?_
  refine ty 5 74 hHeld ?_
  refine ty 6 75 hHeld ?_
  refine ty 7 76 hHeld ?_
  refine wpAnyH_ready (rs := [8]) (by kernel_rfl) (by simp) (AllReadyH.cons rfl (fun K hK => ?_) AllReadyH.nil)
  refine step_copy_run 77 rfl rfl (.tmp 73) (.tmp 76) 23 23 rfl (.slice (some ⟨g, (i + 1) * 5, none⟩) (M.length - i) (cap - (i + 1))) (.slice (some ⟨g, i * 5, none⟩) (M.length + 1 - i) (cap - i)) rfl rfl (hcp1 _ _ _) ?_
  refine hK.out _ _ (by trivial) (fun hHeldN => ?_)
  clear hHeld hK K
  have hHeld := hHeldN
  clear hHeldN
  refine wpAnyH_done (by kernel_rfl) ?_ _
  go_wp2_with (at_builtin; refine wpList_copy_run _ rfl _ _ 23 23 rfl _ _ rfl rfl (hcp2 _ rfl _ _) ?_)
  go_ret
  exact ⟨rfl, HFin.out _ (by rw [List.append_assoc]), grownBy_trans (grownBy_drew w _) (grownBy_trans (setRow_grown _ g _) (setRow_grown _ g _))⟩
set_option maxHeartbeats 1000000 in
set_option maxRecDepth 100000 in
theorem insM_grow (M : List Mk) (x : Mk) (i cap g vb : Nat) (cur : Array Value) (w : World) (hi : i < M.length) (hnc : M.length ≤ cap) (hroom : cap < M.length + 1) (hn : M.length ≤ 1000000)
    (hg : w.heap[g]? = some (.cells cur 64 (0, 0))) (htk : cur.toList.take (M.length * 5) = M.flatMap mkC) (hv : w.heap[vb]? = some (.cells (mkC x).toArray 64 (0, 0))) :
    Calls Try.prog 84 #[.slice (some ⟨g, 0, none⟩) M.length cap, .int .i64 i, .slice (some ⟨vb, 0, none⟩) 1 1] w fun e w' => ∃ G, e = .returned (.slice (some ⟨w.heap.size, 0, none⟩) (M.length + 1) G) ∧ M.length + 1 ≤ G ∧ G ≤ maxLen ∧
      (∃ cur', w'.heap[w.heap.size]? = some (.cells cur' 64 (0, 0)) ∧ cur'.size = G * 5 ∧ cur'.toList.take ((M.length + 1) * 5) = (M.take i ++ x :: M.drop i).flatMap mkC) ∧ Gr w w' := by
  obtain ⟨i0, hi0, hz0, hzs, hzb⟩ := info_parts infoMk
  have hsz : (Try.prog.info? 64).map (·.size) = some 5 := by rw [hi0]; simp [hzs]
  have hut := Try.underlying23
  have hz2 : ¬ ((i : Int) = (M.length : Int)) := by omega
  have hz3 : (cap : Int) < (M.length : Int) + 1 := by omega
  have hcell : ∀ j v, (M.flatMap mkC)[j]? = some v → w.cell? ⟨g, j, none⟩ = some v := fun j v h => by
    rw [cell_of_row w g j cur _ _ hg]
    rw [← htk, List.getElem?_take] at h
    split at h
    · simpa using h
    · cases h
  have hgl : g < w.heap.size := by
    rcases Nat.lt_or_ge g w.heap.size with h | h
    · exact h
    · rw [Array.getElem?_eq_none h] at hg; cases hg
  have hvl : vb < w.heap.size := by
    rcases Nat.lt_or_ge vb w.heap.size with h | h
    · exact h
    · rw [Array.getElem?_eq_none h] at hv; cases hv
  have hZl : ((M.flatMap mkC).drop (i * 5)).length = (M.length - i) * 5 := by rw [List.length_drop, flat_len mkC_len, Nat.sub_mul]
  have hTl : ((M.flatMap mkC).take (i * 5)).length = i * 5 := by rw [List.length_take, flat_len mkC_len, Nat.min_eq_left (Nat.mul_le_mul_right _ (by omega))]
  have hXl := mkC_len x
  have hold : (Builtin.firstCells i0.size i (.slice (some ⟨g, 0, none⟩) i cap)).run Try.prog w.drew = .ok ((M.flatMap mkC).take (i * 5)).toArray w.drew := by
    rw [hzs]
    exact run_firstCells_some w.drew 5 i ⟨g, 0, none⟩ i cap _ hTl (fun j v hj => by
      rw [Addr.add_lit, Nat.zero_add]
      rw [List.getElem?_take] at hj
      split at hj
      · exact hcell j v hj
      · cases hj)
  have hik : i + (M.length + 1 - i) = M.length + 1 := by omega
  have hkk : (M.length : Int) + 1 - (i : Int) = ((M.length + 1 - i : Nat) : Int) := by omega
  have hrz : ∀ ty, (Builtin.append_ #[23, 3] ty #[.slice (some ⟨g, 0, none⟩) i cap, .int .i64 ((M.length : Int) + 1 - (i : Int))]).run Try.prog w =
      .ok (.slice (some ⟨w.heap.size, 0, none⟩) (M.length + 1) (grownCap w (M.length + 1) cap 64)) (w.drew.alloc (.cells (((M.flatMap mkC).take (i * 5)).toArray ++ Builtin.zeroCells ((.agg #[.string ⟨#[]⟩, .int .i64 0, .string ⟨#[]⟩, .int .i64 0, .int .i64 0]) : Value).cells (M.length + 1 - i) ++ Builtin.zeroCells ((.agg #[.string ⟨#[]⟩, .int .i64 0, .string ⟨#[]⟩, .int .i64 0, .int .i64 0]) : Value).cells (grownCap w (M.length + 1) cap 64 - (M.length + 1))) 64)) := fun ty => by
    have h := Lib.run_append_grow_zeros (P := Try.prog) w 23 3 ty 64 i0 _ .i64 .i64 hut Try.underlying3 hi0 hz0 (some ⟨g, 0, none⟩) i cap ((M.flatMap mkC).take (i * 5)) hold (M.length + 1 - i) (by omega) (by omega) (by omega) (by omega) (by rw [hzb]; omega) (by rw [hzb, hik]; exact growslice_fits hroom (by omega))
    rw [hik] at h
    rw [hkk]
    exact h
  obtain ⟨G, hG⟩ : ∃ G, G = grownCap w (M.length + 1) cap 64 := ⟨_, rfl⟩
  obtain ⟨ROW, hROW⟩ : ∃ ROW : Array Value, ROW = ((M.flatMap mkC).take (i * 5)).toArray ++ Builtin.zeroCells ((.agg #[.string ⟨#[]⟩, .int .i64 0, .string ⟨#[]⟩, .int .i64 0, .int .i64 0]) : Value).cells (M.length + 1 - i) ++ Builtin.zeroCells ((.agg #[.string ⟨#[]⟩, .int .i64 0, .string ⟨#[]⟩, .int .i64 0, .int .i64 0]) : Value).cells (G - (M.length + 1)) := ⟨_, rfl⟩
  rw [← hG] at hrz
  rw [← hROW] at hrz
  have hGn : M.length + 1 ≤ G := by rw [hG]; exact grownCap_ge w _ _ _
  have hG63 : G ≤ maxLen := by rw [hG]; exact grownCap_le_maxLen w (M.length + 1) cap 64 (by unfold maxLen; omega)
  have hRs : ROW.size = G * 5 := by
    rw [hROW]
    simp only [Array.size_append, List.size_toArray, hTl, zeroCells_len2]
    show i * 5 + (M.length + 1 - i) * 5 + (G - (M.length + 1)) * 5 = G * 5
    rw [← Nat.add_mul, ← Nat.add_mul]; congr 1; omega
  have hRt : ROW.toList.take (i * 5) = (M.flatMap mkC).take (i * 5) := by
    rw [hROW]
    simp only [Array.toList_append, List.append_assoc]
    exact List.take_left' hTl
  obtain ⟨H, hH⟩ : ∃ H, H = w.heap.size := ⟨_, rfl⟩
  have hW1 : ∀ W : World, W.heap = (w.drew.alloc (.cells ROW 64)).heap → W.heap[H]? = some (.cells ROW 64 (0, 0)) ∧ W.heap[vb]? = some (.cells (mkC x).toArray 64 (0, 0)) ∧ W.heap[g]? = some (.cells cur 64 (0, 0)) := fun W h => by
    rw [h, hH]
    refine ⟨heap_alloc_new w.drew _, ?_, ?_⟩
    · show (w.heap.push _)[vb]? = _
      rw [Array.getElem?_push, if_neg (by omega)]; exact hv
    · show (w.heap.push _)[g]? = _
      rw [Array.getElem?_push, if_neg (by omega)]; exact hg
  have hfit1 : i * 5 + (mkC x).length ≤ ROW.toList.length := by
    rw [hXl, Array.length_toList, hRs]
    have e : i * 5 + 5 = (i + 1) * 5 := by rw [Nat.add_mul, Nat.one_mul]
    rw [e]; exact Nat.mul_le_mul_right _ (by omega)
  have hcpA : ∀ (W : World), W.heap = (w.drew.alloc (.cells ROW 64)).heap → ∀ ty dc, (Builtin.copy_ #[23, 23] ty #[.slice (some ⟨H, i * 5, none⟩) (M.length + 1 - i) dc, .slice (some ⟨vb, 0, none⟩) 1 1]).run Try.prog W =
      .ok (goInt (Nat.min 1 (M.length + 1 - i))) (W.setRow H (ROW.toList.take (i * 5) ++ mkC x ++ ROW.toList.drop (i * 5 + (mkC x).length)).toArray) := fun W hW ty dc =>
    run_copy_big W 23 23 ty 64 5 H (i * 5) _ dc ⟨vb, 0, none⟩ 1 1 ROW 64 (mkC x) hut hsz (hW1 W hW).1 (by rw [hXl]; simp only [Nat.min_def]; split <;> omega)
      (fun j v h => by rw [Addr.add_lit, Nat.zero_add, cell_of_row W vb j _ _ _ (hW1 W hW).2.1]; simpa using h) (by simpa using hfit1) (fun v h => mk_one [x] v (by simpa using h))
  obtain ⟨C1, hC1⟩ : ∃ C1, C1 = ROW.toList.take (i * 5) ++ mkC x ++ ROW.toList.drop (i * 5 + (mkC x).length) := ⟨_, rfl⟩
  rw [← hC1] at hcpA
  have hC1l : C1.length = G * 5 := by rw [hC1, seg_len _ _ _ hfit1, Array.length_toList, hRs]
  have hHg : H ≠ g := by omega
  have hW2 : ∀ W : World, W.heap = ((w.drew.alloc (.cells ROW 64)).setRow H C1.toArray).heap → W.heap[H]? = some (.cells C1.toArray 64 (0, 0)) ∧ W.heap[g]? = some (.cells cur 64 (0, 0)) := fun W h => by
    rw [h]
    obtain ⟨h1, _, h3⟩ := hW1 _ rfl
    refine ⟨setRow_heap _ H _ _ _ _ h1, ?_⟩
    have := (setRow_grown (w.drew.alloc (.cells ROW 64)) H C1.toArray).block g (by simp; omega) (fun e => hHg (by cases e; rfl))
    rw [this]; exact h3
  have hfit2 : (i + 1) * 5 + ((M.flatMap mkC).drop (i * 5)).length ≤ C1.length := by
    rw [hZl, hC1l]
    have e : (i + 1) * 5 + (M.length - i) * 5 = (M.length + 1) * 5 := by rw [← Nat.add_mul]; congr 1; omega
    rw [e]; exact Nat.mul_le_mul_right _ hGn
  have hcpB : ∀ (W : World), W.heap = ((w.drew.alloc (.cells ROW 64)).setRow H C1.toArray).heap → ∀ ty dc sc, (Builtin.copy_ #[23, 23] ty #[.slice (some ⟨H, (i + 1) * 5, none⟩) (M.length - i) dc, .slice (some ⟨g, i * 5, none⟩) (M.length - i) sc]).run Try.prog W =
      .ok (goInt (Nat.min (M.length - i) (M.length - i))) (W.setRow H (C1.toArray.toList.take ((i + 1) * 5) ++ (M.flatMap mkC).drop (i * 5) ++ C1.toArray.toList.drop ((i + 1) * 5 + ((M.flatMap mkC).drop (i * 5)).length)).toArray) := fun W hW ty dc sc =>
    run_copy_big W 23 23 ty 64 5 H ((i + 1) * 5) _ dc ⟨g, i * 5, none⟩ _ sc C1.toArray 64 _ hut hsz (hW2 W hW).1 (by rw [hZl]; simp only [Nat.min_def]; split <;> rfl)
      (fun j v h => by
        rw [Addr.add_lit, cell_of_row W g _ _ _ _ (hW2 W hW).2]
        have := hcell _ v (by rwa [List.getElem?_drop] at h)
        rwa [cell_of_row w g _ _ _ _ hg] at this) (by simpa using hfit2) (fun v h => mk_one M v (List.mem_of_mem_drop h))
  have HFin : Hid (∀ W : World, W.heap = (((w.drew.alloc (.cells ROW 64)).setRow H C1.toArray).setRow H (C1.toArray.toList.take ((i + 1) * 5) ++ (M.flatMap mkC).drop (i * 5) ++ C1.toArray.toList.drop ((i + 1) * 5 + ((M.flatMap mkC).drop (i * 5)).length)).toArray).heap → ∃ cur', W.heap[H]? = some (.cells cur' 64 (0, 0)) ∧ cur'.size = G * 5 ∧ cur'.toList.take ((M.length + 1) * 5) = (M.take i ++ x :: M.drop i).flatMap mkC) := by
    intro W hW
    refine ⟨_, by rw [hW]; exact setRow_heap _ H _ _ _ _ (hW2 _ rfl).1, ?_, ?_⟩
    · rw [List.size_toArray, seg_len _ _ _ (by simpa using hfit2)]
      exact hC1l
    · rw [flat_ins mkC_len M i (by omega) x]
      have e1 : (i + 1) * 5 = i * 5 + 5 := by rw [Nat.add_mul, Nat.one_mul]
      have hs := seg_grow ROW.toList (mkC x) ((M.flatMap mkC).drop (i * 5)) (i * 5) 5 hXl (by
        rw [← e1, show ROW.toList.length = C1.length by rw [Array.length_toList, hRs, hC1l]]; exact hfit2)
      have e2 : i * 5 + 5 + ((M.flatMap mkC).drop (i * 5)).length = (M.length + 1) * 5 := by rw [← e1, hZl, ← Nat.add_mul]; congr 1; omega
      rw [e2, ← hC1] at hs
      rw [hRt] at hs
      show List.take _ _ = _
      rw [e1, e2]
      exact hs
  clear hcell hC1l hW1 hW2 hZl hXl htk hv hRs hRt hfit1 hfit2 hold hTl hg hROW hC1 hG hik hkk
  generalize (M.flatMap mkC).drop (i * 5) = Z at hcpB HFin
  have hw1 : IntKind.i64.wrap ((i : Int) + 1) = (i : Int) + 1 := by rw [IntKind.wrap_i64]; omega
  have hb1 : (0 : Int) ≤ (i : Int) + 1 := by omega
  have htn : ((i : Int) + 1).toNat = i + 1 := by omega
  have hb2 : ¬ (G = i + 1) := by omega
  have hb3 : (i : Int) ≤ (M.length : Int) + 1 := by omega
  have hb4 : ¬ (G = i) := by omega
  have hb5 : (i : Int) + 1 ≤ (M.length : Int) + 1 := by omega
  have hb6 : ¬ (cap = i) := by omega
  have hb7 : (i : Int) ≤ (cap : Int) := by omega
  have hb8 : i ≤ M.length := by omega
  have HGM : Hid (M.length + 1 ≤ G ∧ G ≤ maxLen) := ⟨hGn, hG63⟩
  have hG64 : G ≤ 9223372036854775807 := by unfold maxLen at hG63; omega
  clear hG63
  rw [← hH] at hrz
  have HH : Hid (H = w.heap.size) := hH
  rw [← hH]
  clear hH
  have hE1 : ((w.alloc (.cells ROW 64)).drew).heap = (w.drew.alloc (.cells ROW 64)).heap := rfl
  have hE2 : (((w.alloc (.cells ROW 64)).drew.setRow H C1.toArray).drew).heap = ((w.drew.alloc (.cells ROW 64)).setRow H C1.toArray).heap := rfl
  go_enter Try.func84, Try.ntmps84
  go_wp2_with (first
    | (at_builtin; refine Lib.wpList_append_run _ rfl _ _ _ _ rfl _ _ rfl rfl _ _ (hrz _) ?_)
    | (at_builtin; refine wpList_copy_run _ rfl _ _ 23 23 rfl _ _ rfl rfl (hcpA _ hE1 _ _) ?_)
    | fail)
  refine wp_region_held_drew (S := (fun _ => True)) (by kernel_rfl) (by trivial) (fun hHeld => ?_)
  refine ty 0 46 hHeld ?_
  refine ty 1 47 hHeld ?_
  refine ty 2 48 hHeld ?_
  refine ty 3 49 hHeld ?_
  refine ty 4 50 hHeld ?_
  refine ty 5 51 hHeld ?_
  refine ty 6 52 hHeld ?_
  refine ty 7 53 hHeld ?_
  refine wpAnyH_ready (rs := [8]) (by kernel_rfl) (by simp) (AllReadyH.cons rfl (fun K hK => ?_) AllReadyH.nil)
  refine step_copy_run 54 rfl rfl (.tmp 50) (.tmp 53) 23 23 rfl (.slice (some ⟨H, (i + 1) * 5, none⟩) (M.length - i) (G - (i + 1))) (.slice (some ⟨g, i * 5, none⟩) (M.length - i) (cap - i)) rfl rfl (hcpB _ hE2 _ _ _) ?_
  refine hK.out _ _ (by trivial) (fun hHeldN => ?_)
  clear hHeld hK K
  have hHeld := hHeldN
  clear hHeldN
  refine wpAnyH_done (by kernel_rfl) ?_ _
  go_wp2
  go_ret
  exact ⟨G, rfl, HGM.out.1, HGM.out.2, HFin.out _ (by rw [List.append_assoc]; rfl), (((Gr.refl w).alloc.drew.setRow H (by rw [HH.out]; exact Nat.le_refl _) _).drew).setRow H (by rw [HH.out]; exact Nat.le_refl _) _⟩
set_option maxHeartbeats 2000000 in
set_option maxRecDepth 100000 in
theorem insM_end (M : List Mk) (x : Mk) (v : Value) (vb base : Nat) (w : World) (hn : M.length ≤ 1000000) (hb : base ≤ w.heap.size) (hown : w.ownsRow base 64 5 v M.length (M.flatMap mkC)) (hv : w.heap[vb]? = some (.cells (mkC x).toArray 64 (0, 0))) :
    Calls Try.prog 84 #[v, .int .i64 (M.length : Nat), .slice (some ⟨vb, 0, none⟩) 1 1] w fun e w' => ∃ v', e = .returned v' ∧ w'.ownsRow base 64 5 v' (M.length + 1) ((M ++ [x]).flatMap mkC) ∧ w.grownBy w' v.ownBlock := by
  obtain ⟨i0, hi0, hz0, hz1, hz2⟩ := info_parts infoMk
  have HN : Hid (∀ j u, ([x].flatMap mkC)[j]? = some u → w.cell? ((⟨vb, 0, none⟩ : Addr).add j) = some u) := by
    intro j u h
    rw [Addr.add_lit, Nat.zero_add, cell_of_row w vb j _ _ _ hv]
    simpa using h
  have HO : Hid (w.ownsRow base 64 5 v M.length (M.flatMap mkC)) := hown
  have hl1 : ([x].flatMap mkC).length = 1 * 5 := flat_len mkC_len [x]
  have hm1 : M.length + 1 ≤ maxLen := by unfold maxLen; omega
  obtain ⟨ad, cap, rfl, _, hc63, _⟩ := own_row hown
  clear hown hv
  go_enter Try.func84, Try.ntmps84
  go_wp2_with (first
    | (at_builtin; refine wpList_append_own _ rfl _ _ 23 rfl base 64 i0 (.agg #[.string ⟨#[]⟩, .int .i64 0, .string ⟨#[]⟩, .int .i64 0, .int .i64 0]) 5 56 Try.underlying23 hi0 hz0 hz1 hz2 rfl (by decide) _ _ _ rfl HO.out ⟨vb, 0, none⟩ 1 1 ([x].flatMap mkC) rfl hl1 HN.out (mk_one [x]) hm1 (by omega) hb ?_)
    | fail)
  all_goals
    intro v' w1 hown' hgrow _
    have HI : Hid (w1.ownsRow base 64 5 v' (M.length + 1) ((M ++ [x]).flatMap mkC)) := by
      show World.ownsRow _ _ _ _ _ _ _
      rw [List.flatMap_append]; exact hown'
    have HG : Hid (w.grownBy w1 _) := hgrow
    clear hown' hgrow
    go_wp2
    go_ret
    exact ⟨v', rfl, HI.out, by have := HG.out; cases ad <;> exact this⟩
theorem insM_any (M : List Mk) (x : Mk) (i : Nat) (v : Value) (vb base : Nat) (w : World) (hi : i ≤ M.length) (hn : M.length ≤ 1000000) (hb : base ≤ w.heap.size) (hown : w.ownsRow base 64 5 v M.length (M.flatMap mkC)) (hv : w.heap[vb]? = some (.cells (mkC x).toArray 64 (0, 0))) (hvn : v.ownBlock ≠ some vb) :
    Calls Try.prog 84 #[v, .int .i64 (i : Nat), .slice (some ⟨vb, 0, none⟩) 1 1] w fun e w' => ∃ v', e = .returned v' ∧ w'.ownsRow base 64 5 v' (M.length + 1) ((M.take i ++ x :: M.drop i).flatMap mkC) ∧ w.grownBy w' v.ownBlock := by
  by_cases he : i = M.length
  · subst he
    rw [List.take_length, List.drop_length]
    exact insM_end M x v vb base w hn hb hown hv
  · have hlt : i < M.length := by omega
    have hl : ((M.take i ++ x :: M.drop i).flatMap mkC).length = (M.length + 1) * 5 := by
      rw [flat_len mkC_len]; congr 1
      rw [List.length_append, List.length_cons, List.length_take, List.length_drop]; omega
    obtain ⟨_, ⟨rfl, h0⟩ | ⟨g, cap, cur, rfl, hbg, hg, hnc, hcm, hcs, htk⟩⟩ := hown
    · omega
    · by_cases hroom : M.length + 1 ≤ cap
      · refine (insM_shift M x i cap g vb cur w hlt hroom (fun e => hvn (by rw [e]; rfl)) hn hg hcs htk hv).mono ?_
        rintro e w' ⟨rfl, ⟨cur', h1, h2, h3⟩, hgr⟩
        exact ⟨_, rfl, ⟨hl, Or.inr ⟨g, cap, cur', rfl, hbg, h1, hroom, hcm, h2, h3⟩⟩, hgr⟩
      · refine (insM_grow M x i cap g vb cur w hlt hnc (by omega) hn hg htk hv).mono ?_
        rintro e w' ⟨G, rfl, hG1, hG2, ⟨cur', h1, h2, h3⟩, hgr⟩
        exact ⟨_, rfl, ⟨hl, Or.inr ⟨w.heap.size, G, cur', rfl, hb, h1, hG1, hG2, h2, h3⟩⟩, grownBy_new hgr _⟩
end Go.Proofs.Ytgidkmipecfjhaa
namespace Go.Proofs.Ytgidkmipecfjhaa
open Go.RowKit
structure SixAt (w : World) (g : Nat) (a b c d e f : Value) : Prop where
  c0 : w.cell? ⟨g, 0, none⟩ = some a
  c1 : w.cell? ⟨g, 1, none⟩ = some b
  c2 : w.cell? ⟨g, 2, none⟩ = some c
  c3 : w.cell? ⟨g, 3, none⟩ = some d
  c4 : w.cell? ⟨g, 4, none⟩ = some e
  c5 : w.cell? ⟨g, 5, none⟩ = some f
  fz : ∀ i, i < 6 → w.frozen? ⟨g, i, none⟩ = false
  lt : g < w.heap.size
theorem SixAt.cells {w : World} {g : Nat} {a b c d e f : Value} (x : SixAt w g a b c d e f) :
    w.cell? ⟨g, 0, none⟩ = some a ∧ w.cell? ⟨g, 1, none⟩ = some b ∧ w.cell? ⟨g, 2, none⟩ = some c ∧ w.cell? ⟨g, 3, none⟩ = some d ∧ w.cell? ⟨g, 4, none⟩ = some e ∧ w.cell? ⟨g, 5, none⟩ = some f :=
  ⟨x.c0, x.c1, x.c2, x.c3, x.c4, x.c5⟩
theorem SixAt.frozens {w : World} {g : Nat} {a b c d e f : Value} (x : SixAt w g a b c d e f) :
    w.frozen? ⟨g, 0, none⟩ = false ∧ w.frozen? ⟨g, 1, none⟩ = false ∧ w.frozen? ⟨g, 2, none⟩ = false ∧ w.frozen? ⟨g, 3, none⟩ = false ∧ w.frozen? ⟨g, 4, none⟩ = false ∧ w.frozen? ⟨g, 5, none⟩ = false :=
  ⟨x.fz 0 (by omega), x.fz 1 (by omega), x.fz 2 (by omega), x.fz 3 (by omega), x.fz 4 (by omega), x.fz 5 (by omega)⟩
theorem SixAt.gr {w w' : World} {g : Nat} {a b c d e f : Value} (x : SixAt w g a b c d e f) (k : Gr w w') : SixAt w' g a b c d e f :=
  ⟨k.keep x.c0, k.keep x.c1, k.keep x.c2, k.keep x.c3, k.keep x.c4, k.keep x.c5, fun i hi => k.keepF x.lt (x.fz i hi), Nat.lt_of_lt_of_le x.lt k.size⟩
theorem SixAt.new (w : World) (a b c d e f : Value) (t : TypeId) (g : Nat) (hg : g = w.heap.size) : SixAt (w.alloc (.cells #[a, b, c, d, e, f] t)) g a b c d e f := by
  subst hg
  exact ⟨by simp, by simp, by simp, by simp, by simp, by simp, fun i hi => by simp [go_sem], by simp⟩
theorem SixAt.low {w : World} {g : Nat} {a b c d e f : Value} (x : SixAt w g a b c d e f) (a' b' c' : Value) :
    SixAt (((w.setCell ⟨g, 0, none⟩ a').setCell ⟨g, 1, none⟩ b').setCell ⟨g, 2, none⟩ c') g a' b' c' d e f := by
  obtain ⟨h0, h1, h2, h3, h4, h5⟩ := x.cells
  have hl := x.lt
  have hf := x.fz
  exact ⟨by simp [go_sem, *], by simp [go_sem, *], by simp [go_sem, *], by simp [go_sem, *], by simp [go_sem, *], by simp [go_sem, *], fun i hi => by simp [go_sem, *], by simpa using hl⟩
theorem SixAt.high {w : World} {g : Nat} {a b c d e f : Value} (x : SixAt w g a b c d e f) (a' b' c' : Value) :
    SixAt (((w.setCell ⟨g, 3, none⟩ a').setCell ⟨g, 4, none⟩ b').setCell ⟨g, 5, none⟩ c') g a b c a' b' c' := by
  obtain ⟨h0, h1, h2, h3, h4, h5⟩ := x.cells
  have hl := x.lt
  have hf := x.fz
  exact ⟨by simp [go_sem, *], by simp [go_sem, *], by simp [go_sem, *], by simp [go_sem, *], by simp [go_sem, *], by simp [go_sem, *], fun i hi => by simp [go_sem, *], by simpa using hl⟩
theorem AccAt.far {w : World} {g : Nat} {a b c d e f h : Value} (x : AccAt w g a b c d e f h) (q : Addr) (v : Value) (hq : q.block ≠ g) : AccAt (w.setCell q v) g a b c d e f h :=
  ⟨(World.cell?_setCell_far w q _ v hq).trans x.c0, (World.cell?_setCell_far w q _ v hq).trans x.c1, (World.cell?_setCell_far w q _ v hq).trans x.c2, (World.cell?_setCell_far w q _ v hq).trans x.c3, (World.cell?_setCell_far w q _ v hq).trans x.c4, (World.cell?_setCell_far w q _ v hq).trans x.c5, (World.cell?_setCell_far w q _ v hq).trans x.c6, fun i hi => by rw [World.frozen?_setCell]; exact x.fz i hi, by simpa using x.lt⟩
theorem BoxAt.far {w : World} {g : Nat} {a b c : Value} (x : BoxAt w g a b c) (q : Addr) (v : Value) (hq : q.block ≠ g) : BoxAt (w.setCell q v) g a b c :=
  ⟨(World.cell?_setCell_far w q _ v hq).trans x.c0, (World.cell?_setCell_far w q _ v hq).trans x.c1, (World.cell?_setCell_far w q _ v hq).trans x.c2, by rw [World.frozen?_setCell]; exact x.f0, by rw [World.frozen?_setCell]; exact x.f1, by rw [World.frozen?_setCell]; exact x.f2, by simpa using x.lt⟩
end Go.Proofs.Ytgidkmipecfjhaa
namespace Go.Proofs.Ytgidkmipecfjhaa
open Go.RowKit
theorem hold4 {W w' : World} (h : Gr W w') {p q r u : Addr} {a b c d : Value} (h0 : W.cell? p = some a) (h1 : W.cell? q = some b) (h2 : W.cell? r = some c) (h3 : W.cell? u = some d) : Gr W w' ∧ w'.cell? p = some a ∧ w'.cell? q = some b ∧ w'.cell? r = some c ∧ w'.cell? u = some d :=
  ⟨h, h.keep h0, h.keep h1, h.keep h2, h.keep h3⟩
theorem holdM_gr {w W w' : World} {g : Nat} {q0 q1 q2 q3 q4 q5 q6 : Addr} {v0 v1 v2 v3 v4 v5 v6 : Value}
    (h : Gr w W ∧ W.cell? q0 = some v0 ∧ W.cell? q1 = some v1 ∧ W.cell? q2 = some v2 ∧ W.cell? q3 = some v3 ∧ W.cell? q4 = some v4 ∧ W.cell? q5 = some v5 ∧ W.cell? q6 = some v6 ∧ RoomB W g) (k : Gr W w') :
    Gr w w' ∧ w'.cell? q0 = some v0 ∧ w'.cell? q1 = some v1 ∧ w'.cell? q2 = some v2 ∧ w'.cell? q3 = some v3 ∧ w'.cell? q4 = some v4 ∧ w'.cell? q5 = some v5 ∧ w'.cell? q6 = some v6 ∧ RoomB w' g :=
  ⟨h.1.trans k, k.keep h.2.1, k.keep h.2.2.1, k.keep h.2.2.2.1, k.keep h.2.2.2.2.1, k.keep h.2.2.2.2.2.1, k.keep h.2.2.2.2.2.2.1, k.keep h.2.2.2.2.2.2.2.1, h.2.2.2.2.2.2.2.2.gr k⟩
theorem far7 {W : World} {g : Nat} (q : Addr) (h : g ≠ q.block) (u0 u1 u2 u3 u4 u5 u6 : Value) :
    (((((((W.setCell ⟨g, 0, none⟩ u0).setCell ⟨g, 1, none⟩ u1).setCell ⟨g, 2, none⟩ u2).setCell ⟨g, 3, none⟩ u3).setCell ⟨g, 4, none⟩ u4).setCell ⟨g, 5, none⟩ u5).setCell ⟨g, 6, none⟩ u6).cell? q = W.cell? q := by
  rw [World.cell?_setCell_far _ _ _ _ h, World.cell?_setCell_far _ _ _ _ h, World.cell?_setCell_far _ _ _ _ h, World.cell?_setCell_far _ _ _ _ h, World.cell?_setCell_far _ _ _ _ h, World.cell?_setCell_far _ _ _ _ h, World.cell?_setCell_far _ _ _ _ h]
theorem holdM_set {w W : World} {P Z g : Nat} {v0 v1 v2 v3 v4 v5 v6 : Value}
    (h : Gr w W ∧ W.cell? ⟨P, 0, none⟩ = some v0 ∧ W.cell? ⟨P, 1, none⟩ = some v1 ∧ W.cell? ⟨P, 2, none⟩ = some v2 ∧ W.cell? ⟨P, 3, none⟩ = some v3 ∧ W.cell? ⟨P, 4, none⟩ = some v4 ∧ W.cell? ⟨P, 5, none⟩ = some v5 ∧ W.cell? ⟨Z, 0, none⟩ = some v6 ∧ RoomB W g) (hg : w.heap.size ≤ g) (hP : g ≠ P) (hZ : g ≠ Z) (u0 u1 u2 u3 u4 u5 u6 : Value) :
    Gr w (((((((W.setCell ⟨g, 0, none⟩ u0).setCell ⟨g, 1, none⟩ u1).setCell ⟨g, 2, none⟩ u2).setCell ⟨g, 3, none⟩ u3).setCell ⟨g, 4, none⟩ u4).setCell ⟨g, 5, none⟩ u5).setCell ⟨g, 6, none⟩ u6) ∧ (((((((W.setCell ⟨g, 0, none⟩ u0).setCell ⟨g, 1, none⟩ u1).setCell ⟨g, 2, none⟩ u2).setCell ⟨g, 3, none⟩ u3).setCell ⟨g, 4, none⟩ u4).setCell ⟨g, 5, none⟩ u5).setCell ⟨g, 6, none⟩ u6).cell? ⟨P, 0, none⟩ = some v0 ∧ (((((((W.setCell ⟨g, 0, none⟩ u0).setCell ⟨g, 1, none⟩ u1).setCell ⟨g, 2, none⟩ u2).setCell ⟨g, 3, none⟩ u3).setCell ⟨g, 4, none⟩ u4).setCell ⟨g, 5, none⟩ u5).setCell ⟨g, 6, none⟩ u6).cell? ⟨P, 1, none⟩ = some v1 ∧ (((((((W.setCell ⟨g, 0, none⟩ u0).setCell ⟨g, 1, none⟩ u1).setCell ⟨g, 2, none⟩ u2).setCell ⟨g, 3, none⟩ u3).setCell ⟨g, 4, none⟩ u4).setCell ⟨g, 5, none⟩ u5).setCell ⟨g, 6, none⟩ u6).cell? ⟨P, 2, none⟩ = some v2 ∧ (((((((W.setCell ⟨g, 0, none⟩ u0).setCell ⟨g, 1, none⟩ u1).setCell ⟨g, 2, none⟩ u2).setCell ⟨g, 3, none⟩ u3).setCell ⟨g, 4, none⟩ u4).setCell ⟨g, 5, none⟩ u5).setCell ⟨g, 6, none⟩ u6).cell? ⟨P, 3, none⟩ = some v3 ∧ (((((((W.setCell ⟨g, 0, none⟩ u0).setCell ⟨g, 1, none⟩ u1).setCell ⟨g, 2, none⟩ u2).setCell ⟨g, 3, none⟩ u3).setCell ⟨g, 4, none⟩ u4).setCell ⟨g, 5, none⟩ u5).setCell ⟨g, 6, none⟩ u6).cell? ⟨P, 4, none⟩ = some v4 ∧ (((((((W.setCell ⟨g, 0, none⟩ u0).setCell ⟨g, 1, none⟩ u1).setCell ⟨g, 2, none⟩ u2).setCell ⟨g, 3, none⟩ u3).setCell ⟨g, 4, none⟩ u4).setCell ⟨g, 5, none⟩ u5).setCell ⟨g, 6, none⟩ u6).cell? ⟨P, 5, none⟩ = some v5 ∧ (((((((W.setCell ⟨g, 0, none⟩ u0).setCell ⟨g, 1, none⟩ u1).setCell ⟨g, 2, none⟩ u2).setCell ⟨g, 3, none⟩ u3).setCell ⟨g, 4, none⟩ u4).setCell ⟨g, 5, none⟩ u5).setCell ⟨g, 6, none⟩ u6).cell? ⟨Z, 0, none⟩ = some v6 ∧ RoomB (((((((W.setCell ⟨g, 0, none⟩ u0).setCell ⟨g, 1, none⟩ u1).setCell ⟨g, 2, none⟩ u2).setCell ⟨g, 3, none⟩ u3).setCell ⟨g, 4, none⟩ u4).setCell ⟨g, 5, none⟩ u5).setCell ⟨g, 6, none⟩ u6) g :=
  ⟨h.1.set7 _ hg _ _ _ _ _ _ _, (far7 ⟨P, 0, none⟩ hP _ _ _ _ _ _ _).trans h.2.1, (far7 ⟨P, 1, none⟩ hP _ _ _ _ _ _ _).trans h.2.2.1, (far7 ⟨P, 2, none⟩ hP _ _ _ _ _ _ _).trans h.2.2.2.1, (far7 ⟨P, 3, none⟩ hP _ _ _ _ _ _ _).trans h.2.2.2.2.1, (far7 ⟨P, 4, none⟩ hP _ _ _ _ _ _ _).trans h.2.2.2.2.2.1, (far7 ⟨P, 5, none⟩ hP _ _ _ _ _ _ _).trans h.2.2.2.2.2.2.1, (far7 ⟨Z, 0, none⟩ hZ _ _ _ _ _ _ _).trans h.2.2.2.2.2.2.2.1, h.2.2.2.2.2.2.2.2.set7 _ _ _ _ _ _ _⟩
set_option maxHeartbeats 4000000 in
set_option maxRecDepth 100000 in
theorem move_fit (kf : Nat) (s : ByteArray) (a b c x y z : Int) (k n : Int) (t : ByteArray) (er : Int) (w : World)
    (HF : Hid (∀ w', Calls Try.prog 101 #[.agg #[.string s, .int .i64 a, .int .i64 b, .int .i64 c, .int .i64 x, .int .i64 y, .int .i64 z], .agg #[.int .i64 k, .string t, .int .i64 n]] w' fun e w2 => e = .returned (.int .i64 er) ∧ Gr w' w2)) (her : er ≠ 0) :
    Calls Try.prog 86 #[.agg #[.string s, .int .i64 a, .int .i64 b, .int .i64 c, .int .i64 x, .int .i64 y, .int .i64 z], .agg #[.int .i64 k, .string t, .int .i64 n], .func (.func kf) #[] #[]] w fun e w' =>
      e = .returned (.tuple #[.agg #[.string ⟨#[]⟩, .int .i64 0, .int .i64 0, .int .i64 0, .int .i64 0, .int .i64 0, .int .i64 0], .int .i64 er]) ∧ Gr w w' := by
  have hne : (er != 0) = true := by simpa using her
  clear her
  go_enter Try.func86, Try.ntmps86
  go_wp2_with fail
  refine (HF.out _).mono ?_
  rintro e w1 ⟨rfl, hg1⟩
  have R := (AccAt.new _ _ _ _ _ _ _ _ _ (w.heap.size + 1 + 1) (by simp)).gr hg1
  obtain ⟨r0, r1, r2, r3, r4, r5, r6⟩ := R.cells
  obtain ⟨f0, f1, f2, f3, f4, f5, f6⟩ := R.frozens
  have rl := R.lt
  clear R
  go_wp2
  exact bodyPost_ret (v := .tuple #[.agg #[.string ⟨#[]⟩, .int .i64 0, .int .i64 0, .int .i64 0, .int .i64 0, .int .i64 0, .int .i64 0], .int .i64 er]) (by simp [results, Try.results86, go_sem, *]) rfl ⟨rfl, (by (with_reducible repeat' (first | exact Gr.refl _ | refine Gr.set ?_ _ ?_ _ | refine Gr.alloc ?_ | refine Gr.drew ?_ | refine Gr.trans ?_ (by assumption))) <;> (first | (simp; done) | (simp; omega) | omega))⟩
end Go.Proofs.Ytgidkmipecfjhaa
