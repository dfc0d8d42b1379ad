/- What the proof is made of, part 13. -/
import Derived.Test.YtfobfpigbfepoaaGreatDoorTLBTexts12
import Derived.Lib.AppendZeros
import Derived.Laws.AppendOwnNone
namespace Go.Proofs.YtfobfpigbfepoaaGreatDoor
open Go.RowKit
set_option maxHeartbeats 4000000 in
set_option maxRecDepth 100000 in
theorem insD_shift (A : List Dm) (x : Dm) (i cap g vb : Nat) (cur : Array Value) (w : World) (hi : i < A.length) (hroom : A.length + 1 ≤ cap) (hvb : vb ≠ g) (hn : A.length ≤ 1000000)
    (hg : w.heap[g]? = some (.cells cur 38 (0, 0))) (hcs : cur.size = cap * 2) (htk : cur.toList.take (A.length * 2) = A.flatMap dmC) (hv : w.heap[vb]? = some (.cells (dmC x).toArray 38 (0, 0))) :
    Calls Tryz.prog 39 #[.slice (some ⟨g, 0, none⟩) A.length cap, .int .i64 i, .slice (some ⟨vb, 0, none⟩) 1 1] w fun e w' => e = .returned (.slice (some ⟨g, 0, none⟩) (A.length + 1) cap) ∧
      (∃ cur', w'.heap[g]? = some (.cells cur' 38 (0, 0)) ∧ cur'.size = cap * 2 ∧ cur'.toList.take ((A.length + 1) * 2) = (A.take i ++ x :: A.drop i).flatMap dmC) ∧ w.grownBy w' (some g) := by
  obtain ⟨i0, hi0, hz0, hz1, hz2⟩ := info_parts infoDef
  have hsz : (Tryz.prog.info? 38).map (·.size) = some 2 := by rw [hi0]; simp [hz1]
  have hut := Tryz.underlying22
  have hz2 : ¬ ((i : Int) = (A.length : Int)) := by omega
  have hov : ∀ lb cb, (callFunc 76 #[.slice (some ⟨vb, 0, none⟩) 1 1, .slice (some ⟨g, (i + 1) * 2, none⟩) lb cb]).run Tryz.prog w = .ok (.value (.bool false)) w := fun lb cb => by
    rw [run_callFunc_extern Tryz.func76 (by kernel_rfl) (by kernel_rfl) (by kernel_rfl) (e := Extern.SlicesOverlaps.overlaps #[22, 22] #[4]) (by kernel_rfl),
      Lib.run_overlaps_apart w 22 4 38 hut 2 (fun _ => by kernel_rfl) ⟨vb, 0, none⟩ ⟨g, (i + 1) * 2, none⟩ 1 1 lb cb hvb 38 38 2 (cap * 2) (by unfold World.shape?; rw [hv]; rfl) (by unfold World.shape?; rw [hg]; simp [hcs]) (by omega) (by simp [World.frozen?, hv]) (by simp [World.frozen?, hv])]
    rfl
  have hZl : ((A.flatMap dmC).drop (i * 2)).length = (A.length - i) * 2 := by rw [List.length_drop, flat_len dmC_len, Nat.sub_mul]
  have hXl := dmC_len x
  have hcl : cur.toList.length = cap * 2 := by simpa using hcs
  have hcell : ∀ j v, (A.flatMap dmC)[j]? = some v → w.cell? ⟨g, j, none⟩ = some v := fun j v h => by
    rw [cell_of_row w g j cur _ _ hg]
    rw [← htk, List.getElem?_take] at h
    split at h
    · simpa using h
    · cases h
  have hcp1 : ∀ ty dc sc, (Builtin.copy_ #[22, 22] ty #[.slice (some ⟨g, (i + 1) * 2, none⟩) (A.length - i) dc, .slice (some ⟨g, i * 2, none⟩) (A.length + 1 - i) sc]).run Tryz.prog w.drew =
      .ok (goInt (Nat.min (A.length + 1 - i) (A.length - i))) (w.drew.setRow g (cur.toList.take ((i + 1) * 2) ++ (A.flatMap dmC).drop (i * 2) ++ cur.toList.drop ((i + 1) * 2 + ((A.flatMap dmC).drop (i * 2)).length)).toArray) := fun ty dc sc =>
    run_copy_big w.drew 22 22 ty 38 2 g ((i + 1) * 2) _ dc ⟨g, i * 2, none⟩ _ sc cur 38 _ hut hsz hg (by rw [hZl]; simp only [Nat.min_def]; split <;> (congr 1 <;> omega))
      (fun j v h => by rw [Addr.add_lit]; exact hcell _ v (by rwa [List.getElem?_drop] at h)) (by
        rw [hZl, hcs]
        have e : (i + 1) * 2 + (A.length - i) * 2 = (A.length + 1) * 2 := by rw [← Nat.add_mul]; congr 1; omega
        rw [e]; exact Nat.mul_le_mul_right _ hroom) (fun v h => dm_one A v (List.mem_of_mem_drop h))
  obtain ⟨C1, hC1⟩ : ∃ C1, C1 = (cur.toList.take ((i + 1) * 2) ++ (A.flatMap dmC).drop (i * 2) ++ cur.toList.drop ((i + 1) * 2 + ((A.flatMap dmC).drop (i * 2)).length)) := ⟨_, rfl⟩
  rw [← hC1] at hcp1
  have hfit : (i + 1) * 2 + ((A.flatMap dmC).drop (i * 2)).length ≤ cur.toList.length := by
    rw [hZl, hcl]
    have e : (i + 1) * 2 + (A.length - i) * 2 = (A.length + 1) * 2 := by rw [← Nat.add_mul]; congr 1; omega
    rw [e]; exact Nat.mul_le_mul_right _ hroom
  have hC1l : C1.length = cap * 2 := by rw [hC1, seg_len _ _ _ hfit, hcl]
  have hg1 : ∀ W : World, W.heap = (w.drew.setRow g C1.toArray).heap → W.heap[g]? = some (.cells C1.toArray 38 (0, 0)) := fun W h => by rw [h]; exact setRow_heap w.drew g cur _ _ _ hg
  have hv1 : ∀ W : World, W.heap = (w.drew.setRow g C1.toArray).heap → W.heap[vb]? = some (.cells (dmC x).toArray 38 (0, 0)) := fun W h => by
    rw [h]
    have := (setRow_grown w.drew g C1.toArray).block vb (by
      rcases Nat.lt_or_ge vb w.heap.size with h | h
      · exact h
      · rw [Array.getElem?_eq_none h] at hv; cases hv) (fun e => hvb (by cases e; rfl))
    rw [this]; exact hv
  have hcp2 : ∀ (W : World), W.heap = (w.drew.setRow g C1.toArray).heap → ∀ ty dc, (Builtin.copy_ #[22, 22] ty #[.slice (some ⟨g, i * 2, none⟩) (A.length + 1 - i) dc, .slice (some ⟨vb, 0, none⟩) 1 1]).run Tryz.prog W =
      .ok (goInt (Nat.min 1 (A.length + 1 - i))) (W.setRow g (C1.toArray.toList.take (i * 2) ++ dmC x ++ C1.toArray.toList.drop (i * 2 + (dmC x).length)).toArray) := fun W hW ty dc =>
    run_copy_big W 22 22 ty 38 2 g (i * 2) _ dc ⟨vb, 0, none⟩ 1 1 C1.toArray 38 (dmC x) hut hsz (hg1 W hW) (by rw [hXl]; simp only [Nat.min_def]; split <;> omega)
      (fun j v h => by rw [Addr.add_lit, Nat.zero_add, cell_of_row W vb j _ _ _ (hv1 W hW)]; simpa using h) (by
        rw [hXl, List.size_toArray, hC1l]
        have e : i * 2 + 2 = (i + 1) * 2 := by rw [Nat.add_mul, Nat.one_mul]
        rw [e]; exact Nat.mul_le_mul_right _ (by omega)) (fun v h => dm_one [x] v (by simpa using h))
  have hw1 : IntKind.i64.wrap ((i : Int) + 1) = (i : Int) + 1 := by rw [IntKind.wrap_i64]; omega
  have hb1 : (0 : Int) ≤ (i : Int) + 1 := by omega
  have htn : ((i : Int) + 1).toNat = i + 1 := by omega
  have hb2 : ¬ (cap = i + 1) := by omega
  have hb3 : (i : Int) ≤ (A.length : Int) + 1 := by omega
  have hb4 : ¬ (cap = i) := by omega
  have hb5 : (i : Int) + 1 ≤ (A.length : Int) + 1 := by omega
  have HFin : Hid (∀ W : World, W.heap = ((w.drew.setRow g C1.toArray).setRow g (C1.toArray.toList.take (i * 2) ++ dmC x ++ C1.toArray.toList.drop (i * 2 + (dmC x).length)).toArray).heap → ∃ cur', W.heap[g]? = some (.cells cur' 38 (0, 0)) ∧ cur'.size = cap * 2 ∧ cur'.toList.take ((A.length + 1) * 2) = (A.take i ++ x :: A.drop i).flatMap dmC) := by
    intro W hW
    refine ⟨_, by rw [hW]; exact setRow_heap _ g _ _ _ _ (hg1 _ rfl), ?_, ?_⟩
    · rw [List.size_toArray, seg_len _ _ _ (by
        rw [hXl]
        show i * 2 + 2 ≤ C1.length
        rw [hC1l]
        have e : i * 2 + 2 = (i + 1) * 2 := by rw [Nat.add_mul, Nat.one_mul]
        rw [e]; exact Nat.mul_le_mul_right _ (by omega))]
      exact hC1l
    · rw [flat_ins dmC_len A i (by omega) x]
      have e1 : (i + 1) * 2 = i * 2 + 2 := by rw [Nat.add_mul, Nat.one_mul]
      have hs := seg_shift cur.toList (dmC x) ((A.flatMap dmC).drop (i * 2)) (i * 2) 2 hXl (by rw [← e1]; exact hfit)
      have e2 : i * 2 + 2 + ((A.flatMap dmC).drop (i * 2)).length = (A.length + 1) * 2 := by rw [← e1, hZl, ← Nat.add_mul]; congr 1; omega
      have e3 : cur.toList.take (i * 2) = (A.flatMap dmC).take (i * 2) := by rw [← htk, List.take_take, Nat.min_eq_left (Nat.mul_le_mul_right _ (by omega))]
      rw [e2, ← e1, e3, ← e2, ← e1, ← hC1, e1, e2] at hs
      exact hs
  clear hcell hfit hC1l hg1 hv1 hC1 hcl hZl hXl htk hv hcs
  go_enter Tryz.func39, Tryz.ntmps39
  go_wp2_with (simp only [hov])
  refine wp_region_held_drew (S := (fun _ => True)) (by kernel_rfl) (by trivial) (fun hHeld => ?_)
  refine take_yes 0 69 (v := ?_) rfl rfl (by kernel_rfl) (by kernel_rfl) (by kernel_rfl) (fun _ _ _ h => h) (by rfl) ?_ hHeld ?_
  rotate_left
  · (intro w hSw; (try dsimp only at hSw); go_simp; try with_reducible rfl)
  simp only [Act.put, List.setIfInBounds_toArray, List.set_cons_zero, List.set_cons_succ]
  refine take_yes 1 70 (v := ?_) rfl rfl (by kernel_rfl) (by kernel_rfl) (by kernel_rfl) (fun _ _ _ h => h) (by rfl) ?_ hHeld ?_
  rotate_left
  · (intro w hSw; (try dsimp only at hSw); go_simp; try with_reducible rfl)
  simp only [Act.put, List.setIfInBounds_toArray, List.set_cons_zero, List.set_cons_succ]
  refine take_yes 2 71 (v := ?_) rfl rfl (by kernel_rfl) (by kernel_rfl) (by kernel_rfl) (fun _ _ _ h => h) (by rfl) ?_ hHeld ?_
  rotate_left
  · (intro w hSw; (try dsimp only at hSw); go_simp; try with_reducible rfl)
  simp only [Act.put, List.setIfInBounds_toArray, List.set_cons_zero, List.set_cons_succ]
  refine take_yes 3 72 (v := ?_) rfl rfl (by kernel_rfl) (by kernel_rfl) (by kernel_rfl) (fun _ _ _ h => h) (by rfl) ?_ hHeld ?_
  rotate_left
  · (intro w hSw; (try dsimp only at hSw); go_simp; try with_reducible rfl)
  simp only [Act.put, List.setIfInBounds_toArray, List.set_cons_zero, List.set_cons_succ]
  refine take_yes 4 73 (v := ?_) rfl rfl (by kernel_rfl) (by kernel_rfl) (by kernel_rfl) (fun _ _ _ h => h) (by rfl) ?_ hHeld ?_
  rotate_left
  · (intro w hSw; (try dsimp only at hSw); go_simp; try with_reducible rfl)
  simp only [Act.put, List.setIfInBounds_toArray, List.set_cons_zero, List.set_cons_succ]
  refine take_yes 5 74 (v := ?_) rfl rfl (by kernel_rfl) (by kernel_rfl) (by kernel_rfl) (fun _ _ _ h => h) (by rfl) ?_ hHeld ?_
  rotate_left
  · (intro w hSw; (try dsimp only at hSw); go_simp; try with_reducible rfl)
  simp only [Act.put, List.setIfInBounds_toArray, List.set_cons_zero, List.set_cons_succ]
  refine take_yes 6 75 (v := ?_) rfl rfl (by kernel_rfl) (by kernel_rfl) (by kernel_rfl) (fun _ _ _ h => h) (by rfl) ?_ hHeld ?_
  rotate_left
  · (intro w hSw; (try dsimp only at hSw); go_simp; try with_reducible rfl)
  simp only [Act.put, List.setIfInBounds_toArray, List.set_cons_zero, List.set_cons_succ]
  refine take_yes 7 76 (v := ?_) rfl rfl (by kernel_rfl) (by kernel_rfl) (by kernel_rfl) (fun _ _ _ h => h) (by rfl) ?_ hHeld ?_
  rotate_left
  · (intro w hSw; (try dsimp only at hSw); go_simp; try with_reducible rfl)
  simp only [Act.put, List.setIfInBounds_toArray, List.set_cons_zero, List.set_cons_succ]
  refine wpAnyH_ready (rs := [8]) (by kernel_rfl) (by simp) (AllReadyH.cons rfl (fun K hK => ?_) AllReadyH.nil)
  refine step_copy_run 77 rfl rfl (.tmp 73) (.tmp 76) 22 22 rfl (.slice (some ⟨g, (i + 1) * 2, none⟩) (A.length - i) (cap - (i + 1))) (.slice (some ⟨g, i * 2, none⟩) (A.length + 1 - i) (cap - i)) rfl rfl (hcp1 _ _ _) ?_
  refine hK.out _ _ (by trivial) (fun hHeldN => ?_)
  clear hHeld hK K
  have hHeld := hHeldN
  clear hHeldN
  refine wpAnyH_done (by kernel_rfl) ?_ _
  go_wp2_with (at_builtin; refine wpList_copy_run _ rfl _ _ 22 22 rfl _ _ rfl rfl (hcp2 _ rfl _ _) ?_)
  go_ret
  exact ⟨rfl, HFin.out _ (by rw [List.append_assoc]), grownBy_trans (grownBy_drew w _) (grownBy_trans (setRow_grown _ g _) (setRow_grown _ g _))⟩
set_option maxHeartbeats 1000000 in
set_option maxRecDepth 100000 in
theorem insD_grow (A : List Dm) (x : Dm) (i cap g vb : Nat) (cur : Array Value) (w : World) (hi : i < A.length) (hnc : A.length ≤ cap) (hroom : cap < A.length + 1) (hn : A.length ≤ 1000000)
    (hg : w.heap[g]? = some (.cells cur 38 (0, 0))) (htk : cur.toList.take (A.length * 2) = A.flatMap dmC) (hv : w.heap[vb]? = some (.cells (dmC x).toArray 38 (0, 0))) :
    Calls Tryz.prog 39 #[.slice (some ⟨g, 0, none⟩) A.length cap, .int .i64 i, .slice (some ⟨vb, 0, none⟩) 1 1] w fun e w' => ∃ G, e = .returned (.slice (some ⟨w.heap.size, 0, none⟩) (A.length + 1) G) ∧ A.length + 1 ≤ G ∧ G ≤ maxLen ∧
      (∃ cur', w'.heap[w.heap.size]? = some (.cells cur' 38 (0, 0)) ∧ cur'.size = G * 2 ∧ cur'.toList.take ((A.length + 1) * 2) = (A.take i ++ x :: A.drop i).flatMap dmC) ∧ Gr w w' := by
  obtain ⟨i0, hi0, hz0, hzs, hzb⟩ := info_parts infoDef
  have hsz : (Tryz.prog.info? 38).map (·.size) = some 2 := by rw [hi0]; simp [hzs]
  have hut := Tryz.underlying22
  have hz2 : ¬ ((i : Int) = (A.length : Int)) := by omega
  have hz3 : (cap : Int) < (A.length : Int) + 1 := by omega
  have hcell : ∀ j v, (A.flatMap dmC)[j]? = some v → w.cell? ⟨g, j, none⟩ = some v := fun j v h => by
    rw [cell_of_row w g j cur _ _ hg]
    rw [← htk, List.getElem?_take] at h
    split at h
    · simpa using h
    · cases h
  have hgl : g < w.heap.size := by
    rcases Nat.lt_or_ge g w.heap.size with h | h
    · exact h
    · rw [Array.getElem?_eq_none h] at hg; cases hg
  have hvl : vb < w.heap.size := by
    rcases Nat.lt_or_ge vb w.heap.size with h | h
    · exact h
    · rw [Array.getElem?_eq_none h] at hv; cases hv
  have hZl : ((A.flatMap dmC).drop (i * 2)).length = (A.length - i) * 2 := by rw [List.length_drop, flat_len dmC_len, Nat.sub_mul]
  have hTl : ((A.flatMap dmC).take (i * 2)).length = i * 2 := by rw [List.length_take, flat_len dmC_len, Nat.min_eq_left (Nat.mul_le_mul_right _ (by omega))]
  have hXl := dmC_len x
  have hold : (Builtin.firstCells i0.size i (.slice (some ⟨g, 0, none⟩) i cap)).run Tryz.prog w.drew = .ok ((A.flatMap dmC).take (i * 2)).toArray w.drew := by
    rw [hzs]
    exact run_firstCells_some w.drew 2 i ⟨g, 0, none⟩ i cap _ hTl (fun j v hj => by
      rw [Addr.add_lit, Nat.zero_add]
      rw [List.getElem?_take] at hj
      split at hj
      · exact hcell j v hj
      · cases hj)
  have hik : i + (A.length + 1 - i) = A.length + 1 := by omega
  have hkk : (A.length : Int) + 1 - (i : Int) = ((A.length + 1 - i : Nat) : Int) := by omega
  have hrz : ∀ ty, (Builtin.append_ #[22, 3] ty #[.slice (some ⟨g, 0, none⟩) i cap, .int .i64 ((A.length : Int) + 1 - (i : Int))]).run Tryz.prog w =
      .ok (.slice (some ⟨w.heap.size, 0, none⟩) (A.length + 1) (grownCap w (A.length + 1) cap 38)) (w.drew.alloc (.cells (((A.flatMap dmC).take (i * 2)).toArray ++ Builtin.zeroCells ((.agg #[.string ⟨#[]⟩, .slice none 0 0]) : Value).cells (A.length + 1 - i) ++ Builtin.zeroCells ((.agg #[.string ⟨#[]⟩, .slice none 0 0]) : Value).cells (grownCap w (A.length + 1) cap 38 - (A.length + 1))) 38)) := fun ty => by
    have h := Lib.run_append_grow_zeros (P := Tryz.prog) w 22 3 ty 38 i0 _ .i64 .i64 hut Tryz.underlying3 hi0 hz0 (some ⟨g, 0, none⟩) i cap ((A.flatMap dmC).take (i * 2)) hold (A.length + 1 - i) (by omega) (by omega) (by omega) (by omega) (by rw [hzb]; omega) (by rw [hzb, hik]; exact growslice_fits hroom (by omega))
    rw [hik] at h
    rw [hkk]
    exact h
  obtain ⟨G, hG⟩ : ∃ G, G = grownCap w (A.length + 1) cap 38 := ⟨_, rfl⟩
  obtain ⟨ROW, hROW⟩ : ∃ ROW : Array Value, ROW = ((A.flatMap dmC).take (i * 2)).toArray ++ Builtin.zeroCells ((.agg #[.string ⟨#[]⟩, .slice none 0 0]) : Value).cells (A.length + 1 - i) ++ Builtin.zeroCells ((.agg #[.string ⟨#[]⟩, .slice none 0 0]) : Value).cells (G - (A.length + 1)) := ⟨_, rfl⟩
  rw [← hG] at hrz
  rw [← hROW] at hrz
  have hGn : A.length + 1 ≤ G := by rw [hG]; exact grownCap_ge w _ _ _
  have hG63 : G ≤ maxLen := by rw [hG]; exact grownCap_le_maxLen w (A.length + 1) cap 38 (by unfold maxLen; omega)
  have hRs : ROW.size = G * 2 := by
    rw [hROW]
    simp only [Array.size_append, List.size_toArray, hTl, zeroCells_len2]
    show i * 2 + (A.length + 1 - i) * 2 + (G - (A.length + 1)) * 2 = G * 2
    rw [← Nat.add_mul, ← Nat.add_mul]; congr 1; omega
  have hRt : ROW.toList.take (i * 2) = (A.flatMap dmC).take (i * 2) := by
    rw [hROW]
    simp only [Array.toList_append, List.append_assoc]
    exact List.take_left' hTl
  obtain ⟨H, hH⟩ : ∃ H, H = w.heap.size := ⟨_, rfl⟩
  have hW1 : ∀ W : World, W.heap = (w.drew.alloc (.cells ROW 38)).heap → W.heap[H]? = some (.cells ROW 38 (0, 0)) ∧ W.heap[vb]? = some (.cells (dmC x).toArray 38 (0, 0)) ∧ W.heap[g]? = some (.cells cur 38 (0, 0)) := fun W h => by
    rw [h, hH]
    refine ⟨heap_alloc_new w.drew _, ?_, ?_⟩
    · show (w.heap.push _)[vb]? = _
      rw [Array.getElem?_push, if_neg (by omega)]; exact hv
    · show (w.heap.push _)[g]? = _
      rw [Array.getElem?_push, if_neg (by omega)]; exact hg
  have hfit1 : i * 2 + (dmC x).length ≤ ROW.toList.length := by
    rw [hXl, Array.length_toList, hRs]
    have e : i * 2 + 2 = (i + 1) * 2 := by rw [Nat.add_mul, Nat.one_mul]
    rw [e]; exact Nat.mul_le_mul_right _ (by omega)
  have hcpA : ∀ (W : World), W.heap = (w.drew.alloc (.cells ROW 38)).heap → ∀ ty dc, (Builtin.copy_ #[22, 22] ty #[.slice (some ⟨H, i * 2, none⟩) (A.length + 1 - i) dc, .slice (some ⟨vb, 0, none⟩) 1 1]).run Tryz.prog W =
      .ok (goInt (Nat.min 1 (A.length + 1 - i))) (W.setRow H (ROW.toList.take (i * 2) ++ dmC x ++ ROW.toList.drop (i * 2 + (dmC x).length)).toArray) := fun W hW ty dc =>
    run_copy_big W 22 22 ty 38 2 H (i * 2) _ dc ⟨vb, 0, none⟩ 1 1 ROW 38 (dmC x) hut hsz (hW1 W hW).1 (by rw [hXl]; simp only [Nat.min_def]; split <;> omega)
      (fun j v h => by rw [Addr.add_lit, Nat.zero_add, cell_of_row W vb j _ _ _ (hW1 W hW).2.1]; simpa using h) (by simpa using hfit1) (fun v h => dm_one [x] v (by simpa using h))
  obtain ⟨C1, hC1⟩ : ∃ C1, C1 = ROW.toList.take (i * 2) ++ dmC x ++ ROW.toList.drop (i * 2 + (dmC x).length) := ⟨_, rfl⟩
  rw [← hC1] at hcpA
  have hC1l : C1.length = G * 2 := by rw [hC1, seg_len _ _ _ hfit1, Array.length_toList, hRs]
  have hHg : H ≠ g := by omega
  have hW2 : ∀ W : World, W.heap = ((w.drew.alloc (.cells ROW 38)).setRow H C1.toArray).heap → W.heap[H]? = some (.cells C1.toArray 38 (0, 0)) ∧ W.heap[g]? = some (.cells cur 38 (0, 0)) := fun W h => by
    rw [h]
    obtain ⟨h1, _, h3⟩ := hW1 _ rfl
    refine ⟨setRow_heap _ H _ _ _ _ h1, ?_⟩
    have := (setRow_grown (w.drew.alloc (.cells ROW 38)) H C1.toArray).block g (by simp; omega) (fun e => hHg (by cases e; rfl))
    rw [this]; exact h3
  have hfit2 : (i + 1) * 2 + ((A.flatMap dmC).drop (i * 2)).length ≤ C1.length := by
    rw [hZl, hC1l]
    have e : (i + 1) * 2 + (A.length - i) * 2 = (A.length + 1) * 2 := by rw [← Nat.add_mul]; congr 1; omega
    rw [e]; exact Nat.mul_le_mul_right _ hGn
  have hcpB : ∀ (W : World), W.heap = ((w.drew.alloc (.cells ROW 38)).setRow H C1.toArray).heap → ∀ ty dc sc, (Builtin.copy_ #[22, 22] ty #[.slice (some ⟨H, (i + 1) * 2, none⟩) (A.length - i) dc, .slice (some ⟨g, i * 2, none⟩) (A.length - i) sc]).run Tryz.prog W =
      .ok (goInt (Nat.min (A.length - i) (A.length - i))) (W.setRow H (C1.toArray.toList.take ((i + 1) * 2) ++ (A.flatMap dmC).drop (i * 2) ++ C1.toArray.toList.drop ((i + 1) * 2 + ((A.flatMap dmC).drop (i * 2)).length)).toArray) := fun W hW ty dc sc =>
    run_copy_big W 22 22 ty 38 2 H ((i + 1) * 2) _ dc ⟨g, i * 2, none⟩ _ sc C1.toArray 38 _ hut hsz (hW2 W hW).1 (by rw [hZl]; simp only [Nat.min_def]; split <;> rfl)
      (fun j v h => by
        rw [Addr.add_lit, cell_of_row W g _ _ _ _ (hW2 W hW).2]
        have := hcell _ v (by rwa [List.getElem?_drop] at h)
        rwa [cell_of_row w g _ _ _ _ hg] at this) (by simpa using hfit2) (fun v h => dm_one A v (List.mem_of_mem_drop h))
  have HFin : Hid (∀ W : World, W.heap = (((w.drew.alloc (.cells ROW 38)).setRow H C1.toArray).setRow H (C1.toArray.toList.take ((i + 1) * 2) ++ (A.flatMap dmC).drop (i * 2) ++ C1.toArray.toList.drop ((i + 1) * 2 + ((A.flatMap dmC).drop (i * 2)).length)).toArray).heap → ∃ cur', W.heap[H]? = some (.cells cur' 38 (0, 0)) ∧ cur'.size = G * 2 ∧ cur'.toList.take ((A.length + 1) * 2) = (A.take i ++ x :: A.drop i).flatMap dmC) := by
    intro W hW
    refine ⟨_, by rw [hW]; exact setRow_heap _ H _ _ _ _ (hW2 _ rfl).1, ?_, ?_⟩
    · rw [List.size_toArray, seg_len _ _ _ (by simpa using hfit2)]
      exact hC1l
    · rw [flat_ins dmC_len A i (by omega) x]
      have e1 : (i + 1) * 2 = i * 2 + 2 := by rw [Nat.add_mul, Nat.one_mul]
      have hs := seg_grow ROW.toList (dmC x) ((A.flatMap dmC).drop (i * 2)) (i * 2) 2 hXl (by
        rw [← e1, show ROW.toList.length = C1.length by rw [Array.length_toList, hRs, hC1l]]; exact hfit2)
      have e2 : i * 2 + 2 + ((A.flatMap dmC).drop (i * 2)).length = (A.length + 1) * 2 := by rw [← e1, hZl, ← Nat.add_mul]; congr 1; omega
      rw [e2, ← hC1] at hs
      rw [hRt] at hs
      show List.take _ _ = _
      rw [e1, e2]
      exact hs
  clear hcell hC1l hW1 hW2 hZl hXl htk hv hRs hRt hfit1 hfit2 hold hTl hg hROW hC1 hG hik hkk
  generalize (A.flatMap dmC).drop (i * 2) = Z at hcpB HFin
  have hw1 : IntKind.i64.wrap ((i : Int) + 1) = (i : Int) + 1 := by rw [IntKind.wrap_i64]; omega
  have hb1 : (0 : Int) ≤ (i : Int) + 1 := by omega
  have htn : ((i : Int) + 1).toNat = i + 1 := by omega
  have hb2 : ¬ (G = i + 1) := by omega
  have hb3 : (i : Int) ≤ (A.length : Int) + 1 := by omega
  have hb4 : ¬ (G = i) := by omega
  have hb5 : (i : Int) + 1 ≤ (A.length : Int) + 1 := by omega
  have hb6 : ¬ (cap = i) := by omega
  have hb7 : (i : Int) ≤ (cap : Int) := by omega
  have hb8 : i ≤ A.length := by omega
  have HGM : Hid (A.length + 1 ≤ G ∧ G ≤ maxLen) := ⟨hGn, hG63⟩
  have hG64 : G ≤ 9223372036854775807 := by unfold maxLen at hG63; omega
  clear hG63
  rw [← hH] at hrz
  have HH : Hid (H = w.heap.size) := hH
  rw [← hH]
  clear hH
  have hE1 : ((w.alloc (.cells ROW 38)).drew).heap = (w.drew.alloc (.cells ROW 38)).heap := rfl
  have hE2 : (((w.alloc (.cells ROW 38)).drew.setRow H C1.toArray).drew).heap = ((w.drew.alloc (.cells ROW 38)).setRow H C1.toArray).heap := rfl
  go_enter Tryz.func39, Tryz.ntmps39
  go_wp2_with (first
    | (at_builtin; refine Lib.wpList_append_run _ rfl _ _ _ _ rfl _ _ rfl rfl _ _ (hrz _) ?_)
    | (at_builtin; refine wpList_copy_run _ rfl _ _ 22 22 rfl _ _ rfl rfl (hcpA _ hE1 _ _) ?_)
    | fail)
  refine wp_region_held_drew (S := (fun _ => True)) (by kernel_rfl) (by trivial) (fun hHeld => ?_)
  refine take_yes 0 46 (v := ?_) rfl rfl (by kernel_rfl) (by kernel_rfl) (by kernel_rfl) (fun _ _ _ h => h) (by rfl) ?_ hHeld ?_
  rotate_left
  · (intro w hSw; (try dsimp only at hSw); go_simp; try with_reducible rfl)
  simp only [Act.put, List.setIfInBounds_toArray, List.set_cons_zero, List.set_cons_succ]
  refine take_yes 1 47 (v := ?_) rfl rfl (by kernel_rfl) (by kernel_rfl) (by kernel_rfl) (fun _ _ _ h => h) (by rfl) ?_ hHeld ?_
  rotate_left
  · (intro w hSw; (try dsimp only at hSw); go_simp; try with_reducible rfl)
  simp only [Act.put, List.setIfInBounds_toArray, List.set_cons_zero, List.set_cons_succ]
  refine take_yes 2 48 (v := ?_) rfl rfl (by kernel_rfl) (by kernel_rfl) (by kernel_rfl) (fun _ _ _ h => h) (by rfl) ?_ hHeld ?_
  rotate_left
  · (intro w hSw; (try dsimp only at hSw); go_simp; try with_reducible rfl)
  simp only [Act.put, List.setIfInBounds_toArray, List.set_cons_zero, List.set_cons_succ]
  refine take_yes 3 49 (v := ?_) rfl rfl (by kernel_rfl) (by kernel_rfl) (by kernel_rfl) (fun _ _ _ h => h) (by rfl) ?_ hHeld ?_
  rotate_left
  · (intro w hSw; (try dsimp only at hSw); go_simp; try with_reducible rfl)
  simp only [Act.put, List.setIfInBounds_toArray, List.set_cons_zero, List.set_cons_succ]
  refine take_yes 4 50 (v := ?_) rfl rfl (by kernel_rfl) (by kernel_rfl) (by kernel_rfl) (fun _ _ _ h => h) (by rfl) ?_ hHeld ?_
  rotate_left
  · (intro w hSw; (try dsimp only at hSw); go_simp; try with_reducible rfl)
  simp only [Act.put, List.setIfInBounds_toArray, List.set_cons_zero, List.set_cons_succ]
  refine take_yes 5 51 (v := ?_) rfl rfl (by kernel_rfl) (by kernel_rfl) (by kernel_rfl) (fun _ _ _ h => h) (by rfl) ?_ hHeld ?_
  rotate_left
  · (intro w hSw; (try dsimp only at hSw); go_simp; try with_reducible rfl)
  simp only [Act.put, List.setIfInBounds_toArray, List.set_cons_zero, List.set_cons_succ]
  refine take_yes 6 52 (v := ?_) rfl rfl (by kernel_rfl) (by kernel_rfl) (by kernel_rfl) (fun _ _ _ h => h) (by rfl) ?_ hHeld ?_
  rotate_left
  · (intro w hSw; (try dsimp only at hSw); go_simp; try with_reducible rfl)
  simp only [Act.put, List.setIfInBounds_toArray, List.set_cons_zero, List.set_cons_succ]
  refine take_yes 7 53 (v := ?_) rfl rfl (by kernel_rfl) (by kernel_rfl) (by kernel_rfl) (fun _ _ _ h => h) (by rfl) ?_ hHeld ?_
  rotate_left
  · (intro w hSw; (try dsimp only at hSw); go_simp; try with_reducible rfl)
  simp only [Act.put, List.setIfInBounds_toArray, List.set_cons_zero, List.set_cons_succ]
  refine wpAnyH_ready (rs := [8]) (by kernel_rfl) (by simp) (AllReadyH.cons rfl (fun K hK => ?_) AllReadyH.nil)
  refine step_copy_run 54 rfl rfl (.tmp 50) (.tmp 53) 22 22 rfl (.slice (some ⟨H, (i + 1) * 2, none⟩) (A.length - i) (G - (i + 1))) (.slice (some ⟨g, i * 2, none⟩) (A.length - i) (cap - i)) rfl rfl (hcpB _ hE2 _ _ _) ?_
  refine hK.out _ _ (by trivial) (fun hHeldN => ?_)
  clear hHeld hK K
  have hHeld := hHeldN
  clear hHeldN
  refine wpAnyH_done (by kernel_rfl) ?_ _
  go_wp2
  go_ret
  exact ⟨G, rfl, HGM.out.1, HGM.out.2, HFin.out _ (by rw [List.append_assoc]; rfl), (((Gr.refl w).alloc.drew.setRow H (by rw [HH.out]; exact Nat.le_refl _) _).drew).setRow H (by rw [HH.out]; exact Nat.le_refl _) _⟩
set_option maxHeartbeats 2000000 in
set_option maxRecDepth 100000 in
theorem insD_end (A : List Dm) (x : Dm) (v : Value) (vb base : Nat) (w : World) (hn : A.length ≤ 1000000) (hb : base ≤ w.heap.size) (hown : w.ownsRow base 38 2 v A.length (A.flatMap dmC)) (hv : w.heap[vb]? = some (.cells (dmC x).toArray 38 (0, 0))) :
    Calls Tryz.prog 39 #[v, .int .i64 (A.length : Nat), .slice (some ⟨vb, 0, none⟩) 1 1] w fun e w' => ∃ v', e = .returned v' ∧ w'.ownsRow base 38 2 v' (A.length + 1) ((A ++ [x]).flatMap dmC) ∧ w.grownBy w' v.ownBlock := by
  obtain ⟨i0, hi0, hz0, hz1, hz2⟩ := info_parts infoDef
  have HN : Hid (∀ j u, ([x].flatMap dmC)[j]? = some u → w.cell? ((⟨vb, 0, none⟩ : Addr).add j) = some u) := by
    intro j u h
    rw [Addr.add_lit, Nat.zero_add, cell_of_row w vb j _ _ _ hv]
    simpa using h
  have HO : Hid (w.ownsRow base 38 2 v A.length (A.flatMap dmC)) := hown
  have hl1 : ([x].flatMap dmC).length = 1 * 2 := flat_len dmC_len [x]
  have hm1 : A.length + 1 ≤ maxLen := by unfold maxLen; omega
  obtain ⟨ad, cap, rfl, _, hc63, _⟩ := own_row hown
  clear hown hv
  go_enter Tryz.func39, Tryz.ntmps39
  go_wp2_with (first
    | (at_builtin; refine wpList_append_own _ rfl _ _ 22 rfl base 38 i0 (.agg #[.string ⟨#[]⟩, .slice none 0 0]) 2 40 Tryz.underlying22 hi0 hz0 hz1 hz2 rfl (by decide) _ _ _ rfl HO.out ⟨vb, 0, none⟩ 1 1 ([x].flatMap dmC) rfl hl1 HN.out (dm_one [x]) hm1 (by omega) hb ?_)
    | fail)
  all_goals
    intro v' w1 hown' hgrow _
    have HI : Hid (w1.ownsRow base 38 2 v' (A.length + 1) ((A ++ [x]).flatMap dmC)) := by
      show World.ownsRow _ _ _ _ _ _ _
      rw [List.flatMap_append]; exact hown'
    have HG : Hid (w.grownBy w1 _) := hgrow
    clear hown' hgrow
    go_wp2
    go_ret
    exact ⟨v', rfl, HI.out, by have := HG.out; cases ad <;> exact this⟩
theorem insD_any (A : List Dm) (x : Dm) (i : Nat) (v : Value) (vb base : Nat) (w : World) (hi : i ≤ A.length) (hn : A.length ≤ 1000000) (hb : base ≤ w.heap.size) (hown : w.ownsRow base 38 2 v A.length (A.flatMap dmC)) (hv : w.heap[vb]? = some (.cells (dmC x).toArray 38 (0, 0))) (hvn : v.ownBlock ≠ some vb) :
    Calls Tryz.prog 39 #[v, .int .i64 (i : Nat), .slice (some ⟨vb, 0, none⟩) 1 1] w fun e w' => ∃ v', e = .returned v' ∧ w'.ownsRow base 38 2 v' (A.length + 1) ((A.take i ++ x :: A.drop i).flatMap dmC) ∧ w.grownBy w' v.ownBlock := by
  by_cases he : i = A.length
  · subst he
    rw [List.take_length, List.drop_length]
    exact insD_end A x v vb base w hn hb hown hv
  · have hlt : i < A.length := by omega
    have hl : ((A.take i ++ x :: A.drop i).flatMap dmC).length = (A.length + 1) * 2 := by
      rw [flat_len dmC_len]; congr 1
      rw [List.length_append, List.length_cons, List.length_take, List.length_drop]; omega
    obtain ⟨_, ⟨rfl, h0⟩ | ⟨g, cap, cur, rfl, hbg, hg, hnc, hcm, hcs, htk⟩⟩ := hown
    · omega
    · by_cases hroom : A.length + 1 ≤ cap
      · refine (insD_shift A x i cap g vb cur w hlt hroom (fun e => hvn (by rw [e]; rfl)) hn hg hcs htk hv).mono ?_
        rintro e w' ⟨rfl, ⟨cur', h1, h2, h3⟩, hgr⟩
        exact ⟨_, rfl, ⟨hl, Or.inr ⟨g, cap, cur', rfl, hbg, h1, hroom, hcm, h2, h3⟩⟩, hgr⟩
      · refine (insD_grow A x i cap g vb cur w hlt hnc (by omega) hn hg htk hv).mono ?_
        rintro e w' ⟨G, rfl, hG1, hG2, ⟨cur', h1, h2, h3⟩, hgr⟩
        exact ⟨_, rfl, ⟨hl, Or.inr ⟨w.heap.size, G, cur', rfl, hb, h1, hG1, hG2, h2, h3⟩⟩, grownBy_new hgr _⟩
end Go.Proofs.YtfobfpigbfepoaaGreatDoor
namespace Go.Proofs.YtfobfpigbfepoaaGreatDoor
open Go.RowKit
open Df (Stp)
theorem own_litS (w : World) (base : Nat) (t : TypeId) (g : Nat) (hg : g = w.heap.size) (hb : base ≤ w.heap.size) : (w.alloc (.cells #[] t)).ownsRow base t 7 (.slice (some ⟨g, 0, none⟩) 0 0) 0 [] := by
  subst hg; exact World.ownsRow_lit w #[] 0 hb (by unfold maxLen; omega) rfl
set_option maxHeartbeats 1000000 in
set_option maxRecDepth 100000 in
theorem cloneS_any (A : List Stp) (ad : Option Addr) (cap : Nat) (w : World) (hA : StpsAt w ad A) (hn : A.length ≤ 1000000) :
    Calls Tryz.prog 54 #[.slice ad A.length cap] w fun e w' => ∃ v, e = .returned v ∧ w'.ownsRow w.heap.size 78 7 v A.length (A.flatMap stpC) ∧ Gr w w' := by
  obtain ⟨i0, hi, hz0, hz1, hz2⟩ := info_parts infoStp
  cases ad with
  | none =>
    have hnil := RowAt.none stpC_len (by omega) hA
    subst hnil
    have he : ∀ w : World, (binOp .eql 36 (.slice none 0 cap) (.slice none 0 0)).run Tryz.prog w = .ok (.bool true) w := fun _ => rfl
    clear hA hi hz0 hz1 hz2 hn
    rw [List.length_nil]
    go_enter Tryz.func54, Tryz.ntmps54
    go_wp2
    go_ret
    exact ⟨_, rfl, World.ownsRow_nil _ _ _ _, (by repeat (first | exact Gr.refl _ | refine Gr.alloc ?_ | refine Gr.drew ?_ | refine Gr.trans ?_ (by assumption)))⟩
  | some a =>
    have hnews := (hA.gr ((Gr.refl w).alloc (o := .cells #[] 78))).news
    have HN : Hid (∀ j u, (A.flatMap stpC)[j]? = some u → (w.alloc (.cells #[] 78)).cell? (a.add j) = some u) := hnews
    have hln : (A.flatMap stpC).length = A.length * 7 := flat_len stpC_len A
    have hm1 : 0 + A.length ≤ maxLen := by unfold maxLen; omega
    clear hA hnews
    have he : ∀ w : World, (binOp .eql 36 (.slice (some a) A.length cap) (.slice none 0 0)).run Tryz.prog w = .ok (.bool false) w := fun _ => rfl
    go_enter Tryz.func54, Tryz.ntmps54
    go_wp2_with (first
      | (at_builtin; refine wpList_append_own _ rfl _ _ 36 rfl w.heap.size 78 i0 (.agg #[.int .i64 0, .string ⟨#[]⟩, .int .i64 0, .int .i64 0, .string ⟨#[]⟩, .int .i64 0, .int .i64 0]) 7 72 Tryz.underlying36 hi hz0 hz1 hz2 rfl (by decide) _ _ _ rfl (own_litS _ _ _ _ (by simp) (by simp)) a A.length cap (A.flatMap stpC) rfl hln HN.out (stp_one A) hm1 (by omega) (by simp) ?_)
      | fail)
    intro v' w1 hown' hgrow _
    have HI : Hid (w1.ownsRow w.heap.size 78 7 v' A.length (A.flatMap stpC)) := by
      show World.ownsRow _ _ _ _ _ _ _
      simpa using hown'
    have hb1 : Below w.heap.size w (w.alloc (.cells #[] 78)) := (Below.refl w.heap.size w).alloc (Nat.le_refl _) _
    have HG : Hid (Gr w w1) := ⟨hb1.grown hgrow (by simp) (fun k hk => by simp [Value.ownBlock] at hk; omega)⟩
    clear hown'
    go_wp2
    go_ret
    exact ⟨v', rfl, HI.out, HG.out⟩
end Go.Proofs.YtfobfpigbfepoaaGreatDoor
