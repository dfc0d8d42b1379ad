
/- A row of integers that the call owns: copied, searched, a number laid into it (slices.BinarySearch, slices.Insert by the library's contracts). -/
import Derived.Test.YtdgjgpcfpkpnlaaWnA
import Derived.Test.YtdgjgpcfpkpnlaaWnN
import Derived.Test.YtdgjgpcfpkpnlaaShelf
import Derived.Laws.AppendOwnNone
namespace Go.Proofs.Ytdgjgpcfpkpnlaa
open Go.RowKit
open Wn (Wd)

theorem infoN : (Try.prog.info? 3).map (fun i => (i.zero, i.size, i.bytes)) = some (some (.int .i64 0), 1, 8) := by kernel_rfl
theorem row_keep {w w' : World} {base : Nat} {e : TypeId} {size n : Nat} {v : Value} {xs : List Value} (h : w.ownsRow base e size v n xs) (hb : ∀ g, v.ownBlock = some g → w'.heap[g]? = w.heap[g]?) : w'.ownsRow base e size v n xs := by
  obtain ⟨h1, ⟨rfl, h2⟩ | ⟨g, cap, cur, rfl, h3, h4, h5⟩⟩ := h
  · exact ⟨h1, Or.inl ⟨rfl, h2⟩⟩
  · exact ⟨h1, Or.inr ⟨g, cap, cur, rfl, h3, (hb g rfl).trans h4, h5⟩⟩
theorem row_gr {w w' : World} {base : Nat} {e : TypeId} {size n : Nat} {v : Value} {xs : List Value} (h : w.ownsRow base e size v n xs) (g : Gr w w') : w'.ownsRow base e size v n xs :=
  row_keep h (fun j hj => g.below.block j (h.lt j hj).2)
theorem IntsAt.news {w : World} {a : Addr} {l : List Int} (h : IntsAt w (some a) l) : ∀ j u, (intV l)[j]? = some u → w.cell? (a.add j) = some u := by
  intro j u hu
  have hj : j < l.length := by
    rcases Nat.lt_or_ge j l.length with h | h
    · exact h
    · rw [List.getElem?_eq_none (by simpa [intV] using h)] at hu; cases hu
  obtain ⟨b, off, e, _, hc⟩ := h j hj
  cases e
  rw [Addr.add_lit, hc]
  have : (intV l)[j]? = some (.int .i64 l[j]) := by simp [intV, hj]
  rw [← this, hu]
theorem intV_len (l : List Int) : (intV l).length = l.length := by simp [intV]
theorem intV_one (l : List Int) : ∀ u ∈ intV l, u.oneCell' = true := by
  intro u hu
  simp only [intV, List.mem_map] at hu
  obtain ⟨n, _, rfl⟩ := hu
  rfl
theorem IntsAt.none {w : World} {l : List Int} (h : IntsAt w none l) : l = [] := by
  cases l with
  | nil => rfl
  | cons x r => obtain ⟨b, off, e, _⟩ := h 0 (by simp); cases e
/- a row that the call owns, as a row in memory -/
theorem own_intsN {base : Nat} {v : Value} {l : List Int} {w : World} (h : w.ownsRow base 3 1 v l.length (intV l)) : ∃ ad cap, v = .slice ad l.length cap ∧ l.length ≤ cap ∧ IntsAt w ad l ∧ (ad = none → cap = 0) ∧ (∀ a, ad = some a → base ≤ a.block ∧ a.block < w.heap.size) := by
  have hcell := fun g (hg : v.ownBlock = some g) => h.cells hg
  have hlt := h.lt
  obtain ⟨_, ⟨rfl, h0⟩ | ⟨g, cap, cur, rfl, hx⟩⟩ := h
  · have : l = [] := List.length_eq_zero_iff.1 h0
    subst this
    exact ⟨none, 0, rfl, by simp, fun j hj => absurd hj (by simp), fun _ => rfl, fun a e => by cases e⟩
  · refine ⟨some ⟨g, 0, none⟩, cap, rfl, hx.2.2.1, ?_, (fun e => by cases e), fun a e => by cases e; exact hlt g rfl⟩
    intro j hj
    refine ⟨g, 0, rfl, (hlt g rfl).2, ?_⟩
    have := hcell g rfl j (.int .i64 l[j]) (by simp [intV, hj])
    rw [Addr.add_lit] at this
    simpa using this
set_option maxHeartbeats 4000000 in
set_option maxRecDepth 100000 in
theorem copy_any (l : List Int) (ad : Option Addr) (cap : Nat) (w : World) (hL : IntsAt w ad l) (hn : l.length ≤ 1000) (hc : ad = none → cap = 0) :
    Calls Try.prog 16 #[.slice ad l.length cap] w fun e w' => ∃ v, e = .returned v ∧ w'.ownsRow w.heap.size 3 1 v l.length (intV l) ∧ Gr w w' := by
  obtain ⟨i0, hi0, hz0, hz1, hz2⟩ := info_parts infoN
  cases ad with
  | none =>
    obtain rfl := hL.none
    obtain rfl := hc rfl
    have hown := World.ownsRow_nil w w.heap.size 3 1
    rw [List.length_nil]
    go_enter Try.func16, Try.ntmps16
    go_wp2_with (first
      | (at_builtin; refine wpList_append_own_none rfl _ _ 22 rfl w.heap.size 3 i0 1 Try.underlying22 hi0 _ _ _ rfl hown rfl ?_)
      | fail)
    go_ret
    exact ⟨_, rfl, hown, (by repeat (first | exact Gr.refl _ | refine Gr.alloc ?_ | refine Gr.drew ?_ | refine Gr.trans ?_ (by assumption)))⟩
  | some a =>
    have HN := Lib.hid hL.news
    have hln := intV_len l
    have hm1 : 0 + l.length ≤ maxLen := by unfold maxLen; omega
    clear hL hc
    go_enter Try.func16, Try.ntmps16
    go_wp2_with (first
      | (at_builtin; refine wpList_append_own _ rfl _ _ 22 rfl w.heap.size 3 i0 (.int .i64 0) 1 8 Try.underlying22 hi0 hz0 hz1 hz2 rfl (by decide) _ _ _ rfl (World.ownsRow_nil _ _ _ _) a l.length cap (intV l) rfl (by omega) HN.out (intV_one l) hm1 (by omega) (by simp) ?_)
      | fail)
    intro v' w1 hown' hgrow _
    have HI : Hid (w1.ownsRow w.heap.size 3 1 v' l.length (intV l)) := by
      show World.ownsRow _ _ _ _ _ _ _
      simpa using hown'
    have HG : Hid (Gr w w1) := (Gr.refl w).grown hgrow (fun k hk => by simp [Value.ownBlock] at hk)
    clear hown' hgrow
    go_wp2
    go_ret
    exact ⟨v', rfl, HI.out, HG.out⟩
theorem search_any (l : List Int) (ad : Option Addr) (cap : Nat) (x : Int) (w : World) (hL : IntsAt w ad l) (hn : l.length ≤ 1000) (hu : Wn.Up l) :
    Calls Try.prog 17 #[.slice ad l.length cap, .int .i64 x] w fun e w' => e = .returned (.tuple #[.int .i64 (Wn.pos x l : Nat), .bool (decide (x ∈ l))]) ∧ Gr w w' := by
  cases l with
  | nil =>
    refine (Try.slices_BinarySearch_int_empty ad cap x w).mono ?_
    rintro e w' ⟨rfl, rfl⟩
    exact ⟨by simp [Wn.pos], Gr.refl _⟩
  | cons y r =>
    obtain ⟨b, off, rfl, _, _⟩ := hL 0 (by simp)
    refine (Try.slices_BinarySearch_int b off (y :: r).length cap (y :: r) x w (Nat.le_refl _) (by omega) (fun j hj => ?_) ?_).mono ?_
    · obtain ⟨b', off', e, _, hc⟩ := hL j hj
      cases e
      rw [hc, List.getD_eq_getElem?_getD, List.getElem?_eq_getElem hj]; rfl
    · rw [List.take_length]
      exact hu.imp (fun h => by omega)
    · rintro e w' ⟨rfl, q, rfl⟩
      rw [List.take_length]
      refine ⟨?_, (Gr.refl w).dn q⟩
      rw [List.contains_eq_mem]
      rfl
/- the row with a number laid in -/
def put (l : List Int) (i : Nat) (x : Int) : List Int := l.take i ++ x :: l.drop i
theorem put_len (l : List Int) (i : Nat) (x : Int) (hi : i ≤ l.length) : (put l i x).length = l.length + 1 := by
  unfold put; rw [List.length_append, List.length_cons, List.length_take, List.length_drop]; omega
theorem put_at (l : List Int) (i : Nat) (x : Int) (hi : i ≤ l.length) (j : Nat) (hj : j < (put l i x).length) :
    (j < i → ∃ h : j < l.length, (put l i x)[j] = l[j]) ∧ (j = i → (put l i x)[j] = x) ∧ (i < j → ∃ h : j - 1 < l.length, (put l i x)[j] = l[j - 1]) := by
  have hl : (l.take i).length = i := by rw [List.length_take]; omega
  have hjl := hj
  rw [put_len l i x hi] at hjl
  unfold put at *
  refine ⟨fun c => ⟨by omega, ?_⟩, fun c => ?_, fun c => ⟨by omega, ?_⟩⟩
  · rw [List.getElem_append_left (by omega), List.getElem_take]
  · subst c
    rw [List.getElem_append_right (by omega)]
    simp [hl]
  · rw [List.getElem_append_right (by omega)]
    simp only [hl]
    obtain ⟨k, hk⟩ : ∃ k, j - i = k + 1 := ⟨j - i - 1, by omega⟩
    simp only [hk, List.getElem_cons_succ, List.getElem_drop]
    congr 1
    omega
theorem Below.cellsW {B : Nat} (b : Nat) (hb : B ≤ b) : ∀ (vs : List Value) (o : Nat) {a w : World}, Below B a w → Below B a (w.setCells b o vs)
  | [], _, _, _, h => h
  | v :: r, o, _, _, h => Below.cellsW b hb r (o + 1) (h.setCell (p := ⟨b, o, none⟩) hb v)
theorem size_setCells (b : Nat) : ∀ (vs : List Value) (o : Nat) (w : World), (w.setCells b o vs).heap.size = w.heap.size
  | [], _, _ => rfl
  | v :: r, o, w => by rw [World.setCells, size_setCells b r]; simp
theorem cell_blk {w : World} {g : Nat} {cur : Array Value} {t : TypeId} {z : Nat × Nat} (h : w.heap[g]? = some (.cells cur t z)) (j : Nat) : w.cell? ⟨g, j, none⟩ = cur[j]? := by simp [World.cell?, h]
/- what slices.Insert leaves -/
def InR (base : Nat) (w w' : World) (e : Ending) (L : List Int) : Prop := ∃ g cap, e = .returned (.slice (some ⟨g, 0, none⟩) L.length cap) ∧ IntsAt w' (some ⟨g, 0, none⟩) L ∧ L.length ≤ cap ∧ base ≤ g ∧ g < w'.heap.size ∧ Below base w w'
theorem size_new (w : World) (o : Obj) : (w.drew.alloc o).heap.size = w.heap.size + 1 := by simp
theorem ints_new (w : World) (C : Array Value) (t : TypeId) (L : List Int) (h : ∀ j (hj : j < L.length), C[j]? = some (.int .i64 L[j])) : IntsAt (w.drew.alloc (.cells C t)) (some ⟨w.heap.size, 0, none⟩) L := by
  intro j hj
  refine ⟨_, _, rfl, by rw [size_new]; omega, ?_⟩
  rw [Nat.zero_add, World.cell?_alloc_at (w := w.drew) _ _ w.heap.size _ rfl]
  exact h j hj
theorem intV_at (l : List Int) (j : Nat) (hj : j < l.length) : (intV l)[j]? = some (.int .i64 l[j]) := by simp [intV, hj]
/- a row's cells, and that they are there -/
theorem own_cells {w : World} {g : Nat} {cur : Array Value} {t : TypeId} {z : Nat × Nat} {l : List Int} (h4 : w.heap[g]? = some (.cells cur t z)) (h8 : cur.toList.take (l.length * 1) = intV l) (j : Nat) (hj : j < l.length) : w.cell? ⟨g, j, none⟩ = some (.int .i64 l[j]) := by
  have h := congrArg (·[j]?) h8
  simp only [Nat.mul_one, List.getElem?_take_of_lt hj, intV_at l j hj] at h
  rw [cell_blk h4]
  simpa using h
theorem own_some {w : World} {g : Nat} {cur : Array Value} {t : TypeId} {z : Nat × Nat} (h4 : w.heap[g]? = some (.cells cur t z)) (j : Nat) (hj : j < cur.size) : (w.cell? ⟨g, j, none⟩).isSome = true := by
  rw [cell_blk h4, Array.getElem?_eq_getElem hj]; rfl
theorem own_free {w : World} {g : Nat} {cur : Array Value} {t : TypeId} (h4 : w.heap[g]? = some (.cells cur t (0, 0))) (j : Nat) : w.frozen? ⟨g, j, none⟩ = false := by simp [World.frozen?, h4]
/- one value, written at the end -/
theorem put_end (l : List Int) (x : Int) : put l l.length x = l ++ [x] := by simp [put]
theorem ins_room (base : Nat) (l : List Int) (g cap : Nat) (cur : Array Value) (t0 : TypeId) (x : Int) (vb : Nat) (w : World) (h3 : base ≤ g) (h4 : w.heap[g]? = some (.cells cur t0 (0, 0))) (hg : g < w.heap.size) (h6 : cap ≤ 9223372036854775807) (h7 : cur.size = cap) (h8 : cur.toList.take (l.length * 1) = intV l) (hr : l.length + 1 ≤ cap)
    (hvs : ∀ j u, [Value.int .i64 x][j]? = some u → w.cell? ⟨vb, 0 + j, none⟩ = some u) (h1v : ∀ u ∈ [Value.int .i64 x], u.oneCell' = true) :
    Calls Try.prog 19 #[.slice (some ⟨g, 0, none⟩) l.length cap, .int .i64 (l.length : Int), .slice (some ⟨vb, 0, none⟩) 1 1] w fun e w' => InR base w w' e (put l l.length x) := by
  have hin : ∀ j, j < [Value.int .i64 x].length → (w.cell? ⟨g, 0 + l.length + j, none⟩).isSome = true := fun j hj => own_some h4 _ (by simp at hj; omega)
  refine (Any2.slices_Insert_int_end_room Try.laysIns g 0 l.length cap vb 0 1 1 [.int .i64 x] w (by omega) hr h6 rfl (fun j hj => hin j (by simpa using hj)) (fun j _ => own_free h4 _) hvs h1v).mono ?_
  rintro e w' ⟨rfl, rfl⟩
  refine ⟨g, cap, by rw [put_len l _ x (Nat.le_refl _)], ?_, by rw [put_len l _ x (Nat.le_refl _)]; exact hr, h3, by rw [size_setCells]; exact hg, Below.cellsW g h3 _ _ (Below.refl _ _)⟩
  intro j hj
  refine ⟨g, 0, rfl, by rw [size_setCells]; exact hg, ?_⟩
  obtain ⟨p1, p2, _⟩ := put_at l l.length x (Nat.le_refl _) j hj
  rw [put_len l _ x (Nat.le_refl _)] at hj
  by_cases c : j < l.length
  · obtain ⟨_, e⟩ := p1 c
    rw [World.cell?_setCells_out _ _ _ _ _ (fun _ _ => Or.inl (by show 0 + j < 0 + l.length; omega)), e, Nat.zero_add]
    exact own_cells h4 h8 j c
  · have hjl : j = l.length := by omega
    rw [p2 hjl]
    have := World.cell?_setCells_in g [Value.int .i64 x] (0 + l.length) w hin 0 (by simp)
    rw [hjl]
    simpa using this
theorem ins_shift (base : Nat) (l : List Int) (g cap : Nat) (cur : Array Value) (t0 : TypeId) (i : Nat) (x : Int) (vb : Nat) (t : TypeId) (w : World) (h3 : base ≤ g) (h4 : w.heap[g]? = some (.cells cur t0 (0, 0))) (hg : g < w.heap.size) (h6 : cap ≤ 9223372036854775807) (h7 : cur.size = cap) (h8 : cur.toList.take (l.length * 1) = intV l) (hr : l.length + 1 ≤ cap) (hi : i < l.length)
    (hv : w.heap[vb]? = some (.cells #[.int .i64 x] t (0, 0))) (hne : vb ≠ g) (hvs : ∀ j u, [Value.int .i64 x][j]? = some u → w.cell? ⟨vb, 0 + j, none⟩ = some u) (h1v : ∀ u ∈ [Value.int .i64 x], u.oneCell' = true) :
    Calls Try.prog 19 #[.slice (some ⟨g, 0, none⟩) l.length cap, .int .i64 (i : Int), .slice (some ⟨vb, 0, none⟩) 1 1] w fun e w' => InR base w w' e (put l i x) := by
  have hsp : ∀ j, j < l.length + 1 → (w.cell? ⟨g, 0 + j, none⟩).isSome = true := fun j hj => own_some h4 _ (by omega)
  refine (Any2.slices_Insert_int_shift Try.laysIns g 0 l.length cap i vb 0 1 1 (intV l) [.int .i64 x] w hi (by omega) hr h6 hne (intV_len l) rfl
    (fun j v hj => ?_) hsp (fun j _ => own_free h4 _) hvs (intV_one l) h1v t t0 1 cap (by simp [World.shape?, hv]) (by simp [World.shape?, h4, h7]) (by omega) (own_free hv _) (own_free hv _)).mono ?_
  · have hjl : j < l.length := by
      rcases Nat.lt_or_ge j l.length with h | h
      · exact h
      · rw [List.getElem?_eq_none (by rw [intV_len]; exact h)] at hj; cases hj
    rw [intV_at l j hjl] at hj
    rw [Nat.zero_add, own_cells h4 h8 j hjl, hj]
  rintro e w' ⟨rfl, rfl⟩
  have hdl : ((intV l).drop i).length = l.length - i := by rw [List.length_drop, intV_len]
  have hin1 : ∀ j, j < ((intV l).drop i).length → (w.drew.cell? ⟨g, 0 + (i + 1) + j, none⟩).isSome = true := fun j hj => by
    rw [hdl] at hj
    have := hsp (i + 1 + j) (by omega)
    rw [← Nat.add_assoc] at this
    exact this
  have hin2 : ∀ j, j < [Value.int .i64 x].length → ((w.drew.setCells g (0 + (i + 1)) ((intV l).drop i)).cell? ⟨g, 0 + i + j, none⟩).isSome = true := fun j hj => by
    simp only [List.length_singleton] at hj
    rw [World.cell?_setCells_out _ _ _ _ _ (fun _ _ => Or.inl (by show 0 + i + j < 0 + (i + 1); omega))]
    have := hsp (i + j) (by omega)
    rw [← Nat.add_assoc] at this
    exact this
  refine ⟨g, cap, by rw [put_len l i x (by omega)], ?_, by rw [put_len l i x (by omega)]; exact hr, h3, by rw [size_setCells, size_setCells]; exact hg, Below.cellsW g h3 _ _ (Below.cellsW g h3 _ _ (Below.refl _ _).drew)⟩
  intro j hj
  refine ⟨g, 0, rfl, by rw [size_setCells, size_setCells]; exact hg, ?_⟩
  obtain ⟨p1, p2, p3⟩ := put_at l i x (by omega) j hj
  rw [put_len l i x (by omega)] at hj
  rcases Nat.lt_trichotomy j i with c | c | c
  · obtain ⟨hjl, e⟩ := p1 c
    rw [World.cell?_setCells_out _ _ _ _ _ (fun _ _ => Or.inl (by show 0 + j < 0 + i; omega)), World.cell?_setCells_out _ _ _ _ _ (fun _ _ => Or.inl (by show 0 + j < 0 + (i + 1); omega)), e, Nat.zero_add]
    exact own_cells h4 h8 j hjl
  · have := World.cell?_setCells_in g [Value.int .i64 x] (0 + i) _ hin2 0 (by simp)
    rw [p2 c, c]
    simpa using this
  · have P3 := Lib.hid (p3 c)
    clear p1 p2 p3
    obtain ⟨k, rfl⟩ : ∃ k, j = i + 1 + k := ⟨j - (i + 1), by omega⟩
    have hk : k < ((intV l).drop i).length := by rw [hdl]; omega
    have hk2 : i + k < l.length := by omega
    have hk3 : i + 1 + k - 1 = i + k := by omega
    have := World.cell?_setCells_in g ((intV l).drop i) (0 + (i + 1)) _ hin1 k hk
    rw [World.cell?_setCells_out _ _ _ _ _ (fun _ _ => Or.inr (by show 0 + i + 1 ≤ 0 + (i + 1 + k); omega)), show 0 + (i + 1 + k) = 0 + (i + 1) + k by omega, this, List.getElem_drop]
    have e2 := intV_at l (i + k) hk2
    rw [List.getElem?_eq_getElem (by rw [intV_len]; exact hk2)] at e2
    obtain ⟨hjl, e⟩ := P3.out
    rw [e]
    simp only [hk3]
    exact e2
theorem ins_endgrow (base : Nat) (l : List Int) (ad : Option Addr) (cap : Nat) (x : Int) (vb : Nat) (w : World) (hb : base ≤ w.heap.size) (hn : l.length ≤ 1000) (hnc : l.length ≤ cap) (hr : cap < l.length + 1) (hL : IntsAt w ad l)
    (hvs : ∀ j u, [Value.int .i64 x][j]? = some u → w.cell? ⟨vb, 0 + j, none⟩ = some u) (h1v : ∀ u ∈ [Value.int .i64 x], u.oneCell' = true) :
    Calls Try.prog 19 #[.slice ad l.length cap, .int .i64 (l.length : Int), .slice (some ⟨vb, 0, none⟩) 1 1] w fun e w' => InR base w w' e (put l l.length x) := by
  refine (Any2.slices_Insert_int_end_grow Try.laysIns ad l.length cap vb 0 1 1 (intV l) [.int .i64 x] w (by omega) hnc hr (by omega) (intV_len l) rfl (fun e => by subst e; rw [hL.none]; rfl) (fun a e => by subst e; exact hL.news) hvs h1v).mono ?_
  rintro e w' ⟨rfl, rfl⟩
  refine ⟨w.heap.size, _, by rw [put_len l _ x (Nat.le_refl _)], ?_, by rw [put_len l _ x (Nat.le_refl _)]; exact grownCap_ge w _ _ _, hb, by rw [size_new]; omega, (Below.refl base w).drew.alloc hb _⟩
  refine ints_new w _ _ _ (fun j hj => ?_)
  have hjl := hj
  rw [put_len l _ x (Nat.le_refl _)] at hjl
  have hsz : ((intV l ++ [Value.int .i64 x]).toArray).size = l.length + 1 := by simp [intV]
  rw [Array.getElem?_append_left (by rw [hsz]; exact hjl)]
  have e1 : intV l ++ [Value.int .i64 x] = intV (put l l.length x) := by rw [put_end, intV_snoc]
  rw [e1]
  simpa using intV_at (put l l.length x) j hj
theorem ins_grow (base : Nat) (l : List Int) (g cap : Nat) (i : Nat) (x : Int) (vb : Nat) (w : World) (hb : base ≤ w.heap.size) (hn : l.length ≤ 1000) (hnc : l.length ≤ cap) (hr : cap < l.length + 1) (hi : i < l.length) (hL : IntsAt w (some ⟨g, 0, none⟩) l)
    (hvs : ∀ j u, [Value.int .i64 x][j]? = some u → w.cell? ⟨vb, 0 + j, none⟩ = some u) (h1v : ∀ u ∈ [Value.int .i64 x], u.oneCell' = true) :
    Calls Try.prog 19 #[.slice (some ⟨g, 0, none⟩) l.length cap, .int .i64 (i : Int), .slice (some ⟨vb, 0, none⟩) 1 1] w fun e w' => InR base w w' e (put l i x) := by
  have hnw := hL.news
  refine (Any2.slices_Insert_int_grow Try.laysIns g 0 l.length cap i vb 0 1 1 (intV l) [.int .i64 x] w hi (by omega) hnc hr (by omega) (intV_len l) rfl (fun j u hu => by rw [← Addr.add_lit]; exact hnw j u hu) hvs (intV_one l) h1v).mono ?_
  rintro e w' ⟨rfl, rfl⟩
  obtain ⟨C, hC⟩ : ∃ C : Array Value, C = (((intV l).take i).toArray ++ Builtin.zeroCells (Value.int .i64 0).cells (l.length + 1 - i) ++ Builtin.zeroCells (Value.int .i64 0).cells (grownCap w (l.length + 1) cap (Try.laysIns_ren.t 3) - (l.length + 1))) := ⟨_, rfl⟩
  rw [← hC]
  have hCs : l.length + 1 ≤ C.size := by rw [hC]; simp [Builtin.zeroCells, Value.cells, intV]; omega
  have hC1 : ∀ j (hj : j < l.length), j < i → C[j]? = some (.int .i64 l[j]) := fun j hj hji => by
    have hs : ((intV l).take i).toArray.size = i := by simp [intV]; omega
    rw [hC, Array.getElem?_append_left (by rw [Array.size_append, hs]; omega), Array.getElem?_append_left (by rw [hs]; exact hji)]
    rw [List.getElem?_toArray, List.getElem?_take_of_lt hji]
    exact intV_at l j hj
  clear hC
  have hdl : ((intV l).drop i).length = l.length - i := by rw [List.length_drop, intV_len]
  have hb0 : ∀ j, (w.alloc (.cells C (Try.laysIns_ren.t 3))).drew.cell? ⟨w.heap.size, j, none⟩ = C[j]? := fun j => World.cell?_alloc_at (w := w) C _ w.heap.size j rfl
  have hin1 : ∀ j, j < [Value.int .i64 x].length → ((w.alloc (.cells C (Try.laysIns_ren.t 3))).drew.cell? ⟨w.heap.size, i + j, none⟩).isSome = true := fun j hj => by
    simp only [List.length_singleton] at hj
    rw [hb0, Array.getElem?_eq_getElem (by omega)]; rfl
  have hin2 : ∀ j, j < ((intV l).drop i).length → ((((w.alloc (.cells C (Try.laysIns_ren.t 3))).drew.setCells w.heap.size i [.int .i64 x]).drew).cell? ⟨w.heap.size, i + 1 + j, none⟩).isSome = true := fun j hj => by
    rw [hdl] at hj
    show (((w.alloc (.cells C (Try.laysIns_ren.t 3))).drew.setCells w.heap.size i [.int .i64 x]).cell? ⟨w.heap.size, i + 1 + j, none⟩).isSome = true
    rw [World.cell?_setCells_out _ _ _ _ _ (fun _ _ => Or.inr (by show i + 1 ≤ i + 1 + j; omega)), hb0, Array.getElem?_eq_getElem (by omega)]; rfl
  have hsz : ((((w.alloc (.cells C (Try.laysIns_ren.t 3))).drew.setCells w.heap.size i [.int .i64 x]).drew).setCells w.heap.size (i + 1) ((intV l).drop i)).heap.size = w.heap.size + 1 := by
    rw [size_setCells]
    show ((w.alloc (.cells C (Try.laysIns_ren.t 3))).drew.setCells w.heap.size i [.int .i64 x]).heap.size = _
    rw [size_setCells]
    simp
  refine ⟨w.heap.size, _, by rw [put_len l i x (by omega)], ?_, by rw [put_len l i x (by omega)]; exact grownCap_ge w _ _ _, hb, by rw [hsz]; omega, Below.cellsW _ hb _ _ (Below.cellsW _ hb _ _ ((Below.refl base w).alloc hb _).drew).drew⟩
  intro j hj
  refine ⟨w.heap.size, 0, rfl, by rw [hsz]; omega, ?_⟩
  rw [Nat.zero_add]
  obtain ⟨p1, p2, p3⟩ := put_at l i x (by omega) j hj
  rw [put_len l i x (by omega)] at hj
  rcases Nat.lt_trichotomy j i with c | c | c
  · obtain ⟨hjl, e⟩ := p1 c
    rw [World.cell?_setCells_out _ _ _ _ _ (fun _ _ => Or.inl (by show j < i + 1; omega))]
    show ((w.alloc (.cells C (Try.laysIns_ren.t 3))).drew.setCells w.heap.size i [.int .i64 x]).cell? ⟨w.heap.size, j, none⟩ = _
    rw [World.cell?_setCells_out _ _ _ _ _ (fun _ _ => Or.inl (by show j < i; omega)), hb0, e]
    exact hC1 j hjl c
  · have := World.cell?_setCells_in w.heap.size [Value.int .i64 x] i _ hin1 0 (by simp)
    rw [World.cell?_setCells_out _ _ _ _ _ (fun _ _ => Or.inl (by show j < i + 1; omega))]
    show ((w.alloc (.cells C (Try.laysIns_ren.t 3))).drew.setCells w.heap.size i [.int .i64 x]).cell? ⟨w.heap.size, j, none⟩ = _
    rw [p2 c, c]
    simpa using this
  · have P3 := Lib.hid (p3 c)
    clear p1 p2 p3
    obtain ⟨k, rfl⟩ : ∃ k, j = i + 1 + k := ⟨j - (i + 1), by omega⟩
    have hk : k < ((intV l).drop i).length := by rw [hdl]; omega
    have hk2 : i + k < l.length := by omega
    have hk3 : i + 1 + k - 1 = i + k := by omega
    have := World.cell?_setCells_in w.heap.size ((intV l).drop i) (i + 1) _ hin2 k hk
    rw [this, List.getElem_drop]
    have e2 := intV_at l (i + k) hk2
    rw [List.getElem?_eq_getElem (by rw [intV_len]; exact hk2)] at e2
    obtain ⟨hjl, e⟩ := P3.out
    rw [e]
    simp only [hk3]
    exact e2
theorem ins_any (base : Nat) (l : List Int) (v : Value) (i : Nat) (x : Int) (vb : Nat) (t : TypeId) (w : World) (ho : w.ownsRow base 3 1 v l.length (intV l)) (hn : l.length ≤ 1000) (hi : i ≤ l.length)
    (hv : w.heap[vb]? = some (.cells #[.int .i64 x] t (0, 0))) (hne : ∀ g, v.ownBlock = some g → vb ≠ g) (hb : base ≤ w.heap.size) :
    Calls Try.prog 19 #[v, .int .i64 (i : Int), .slice (some ⟨vb, 0, none⟩) 1 1] w fun e w' => InR base w w' e (put l i x) := by
  have hvs : ∀ j u, [Value.int .i64 x][j]? = some u → w.cell? ⟨vb, 0 + j, none⟩ = some u := fun j u hu => by
    rw [cell_blk hv, Nat.zero_add]; simpa using hu
  have h1v : ∀ u ∈ [Value.int .i64 x], u.oneCell' = true := fun u hu => by simp at hu; subst hu; rfl
  have hpl := put_len l i x hi
  have hvl : vb < w.heap.size := by
    rcases Nat.lt_or_ge vb w.heap.size with h | h
    · exact h
    · rw [Array.getElem?_eq_none h] at hv; cases hv
  obtain ⟨hl, ⟨rfl, h0⟩ | ⟨g, cap, cur, rfl, h3, h4, h5, h6, h7, h8⟩⟩ := ho
  · have hl0 : l = [] := List.length_eq_zero_iff.1 h0
    subst hl0
    obtain rfl : i = 0 := by simpa using hi
    exact ins_endgrow base [] none 0 x vb w hb (by simp) (by simp) (by simp) IntsAt.nil hvs h1v
  · have hg : g < w.heap.size := by
      rcases Nat.lt_or_ge g w.heap.size with h | h
      · exact h
      · rw [Array.getElem?_eq_none h] at h4; cases h4
    have hm : cap ≤ 9223372036854775807 := by unfold maxLen at h6; omega
    rw [Nat.mul_one] at h7
    have hL : IntsAt w (some ⟨g, 0, none⟩) l := fun j hj => ⟨g, 0, rfl, hg, by rw [Nat.zero_add]; exact own_cells h4 h8 j hj⟩
    have hvg := hne g rfl
    by_cases hr : l.length + 1 ≤ cap
    · rcases Nat.lt_or_ge i l.length with c | c
      · exact ins_shift base l g cap cur _ i x vb t w h3 h4 hg hm h7 h8 hr c hv hvg hvs h1v
      · obtain rfl : i = l.length := by omega
        exact ins_room base l g cap cur _ x vb w h3 h4 hg hm h7 h8 hr hvs h1v
    · rcases Nat.lt_or_ge i l.length with c | c
      · exact ins_grow base l g cap i x vb w hb hn h5 (by omega) c hL hvs h1v
      · obtain rfl : i = l.length := by omega
        exact ins_endgrow base l _ cap x vb w hb hn h5 (by omega) hL hvs h1v
end Go.Proofs.Ytdgjgpcfpkpnlaa
