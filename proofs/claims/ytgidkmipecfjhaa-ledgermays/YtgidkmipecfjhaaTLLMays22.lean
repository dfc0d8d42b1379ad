/- What the proof is made of, part 22. -/
import Derived.Test.YtgidkmipecfjhaaTLLMays21
import Derived.Maps.AppendAt
namespace Go.Proofs.Ytgidkmipecfjhaa
open Go.RowKit
open Led (Acc Mk)
theorem infoI : (Try.prog.info? 2).map (fun i => (i.zero, i.size, i.bytes)) = some (some (.int .i64 0), 1, 8) := by kernel_rfl
def iv (l : List Int) : List Value := l.map (fun a => .int .i64 a)
theorem step_append_at {P : Program} {w : World} {ops : Array Oper} {o : Oper} {a : Act} {K : Act → World → Prop} {Q : Exit → Act → World → Prop} {E : Prop} (hgd : o.guard = none) (s x : Operand) (t : TypeId)
    (ho : o.op = .call { callee := .builtin .append, args := #[s, x], argTypes := #[t, t] })
    (base : Nat) (e : TypeId) (i : TypeInfo) (z : Value) (size bytes : Nat) (ht : P.underlying t = some (.slice e)) (hi : P.info? e = some i) (hz : i.zero = some z)
    (hsize : i.size = size) (hby : i.bytes = bytes) (hzs : z.cells.size = size) (hsz : 0 < size)
    (v : Value) (n : Nat) (xs : List Value) (hs : a.eval s = v) (hown : w.ownsRow base e size v n xs)
    (ad : Addr) (m c : Nat) (news : List Value) (hx : a.eval x = .slice (some ad) m c) (hl : news.length = m * size) (hnews : ∀ j u, news[j]? = some u → w.cell? (ad.add j) = some u) (h1 : ∀ u ∈ news, u.oneCell' = true)
    (h63 : n + m ≤ maxLen) (hbytes : (n + m) * bytes ≤ 140737488355328) (hbase : base ≤ w.heap.size)
    (h : ∀ v' w', w'.ownsRow base e size v' (n + m) (xs ++ news) → w.grownBy w' v.ownBlock → (v'.ownBlock = v.ownBlock ∨ v'.ownBlock = some w.heap.size) → K (a.put o.dst v') w') :
    if Region.wanted o (yielded ops a.tmps) = true then Oper.wp P o a w K Q else E := by
  have hw : Region.wanted o (yielded ops a.tmps) = true := by simp [Region.wanted, hgd]
  rw [if_pos hw]
  obtain ⟨v', w', hr, h2, h3, _, h5⟩ := run_append_own_at (P := P) w base t o.type e i z size bytes ht hi hz hsize hby hzs hsz v n xs hown ad m c news hl hnews h1 h63 hbytes hbase
  unfold Oper.wp execOp
  simp only [ho, resolve, invoke, builtin, Sem.run_bind, Sem.run_pure, Result.andThen_ok, List.map_toArray, List.map_cons, List.map_nil, hs, hx, hr]
  exact h v' w' h2 h3 h5
theorem own_slice {w : World} {base : Nat} {e : TypeId} {size n : Nat} {v : Value} {xs : List Value} (h : w.ownsRow base e size v n xs) : ∃ a c, v = .slice a n c := by
  obtain ⟨_, ⟨rfl, h0⟩ | ⟨g, cap, cur, rfl, _⟩⟩ := h
  · exact ⟨none, 0, by rw [h0]⟩
  · exact ⟨_, _, rfl⟩
theorem stepC2 {P : Program} {md : Region.Mode} {ops : Array Oper} {Q : Exit → Act → World → Prop} {s : Nat} {S : World → Prop} (i j : Nat) {oi oj : Oper} {fuel : Nat} {listed : Array Bool} {a : Act} {w : World} (hr : Region.ready md ops listed = [i, j]) (hoi : ops[i]? = some oi) (hoj : ops[j]? = some oj)
    (h1 : ∀ K' : Act → World → Prop, Shut (∀ a w, S w → wpAnyL P md ops Q s S fuel (listed.setIfInBounds i true) a w → K' a w) → if Region.wanted oi (yielded ops a.tmps) = true then Oper.wp P oi a w K' Q else K' (a.put oi.dst undef) w)
    (h2 : ∀ K' : Act → World → Prop, Shut (∀ a w, S w → wpAnyL P md ops Q s S fuel (listed.setIfInBounds j true) a w → K' a w) → if Region.wanted oj (yielded ops a.tmps) = true then Oper.wp P oj a w K' Q else K' (a.put oj.dst undef) w) :
    wpAnyL P md ops Q s S (fuel + 1) listed a w := by
  refine ⟨fun h0 => (by rw [hr] at h0; cases h0), fun k hk => ?_⟩
  rw [hr] at hk
  rcases List.mem_cons.1 hk with rfl | hk
  · exact wpOp_step hoi (fun K' hK => h1 K' (fun a w hS hW => hK a w ⟨fun _ => hS, hW⟩))
  · obtain rfl : k = j := by simpa using hk
    exact wpOp_step hoj (fun K' hK => h2 K' (fun a w hS hW => hK a w ⟨fun _ => hS, hW⟩))
structure NetM (w : World) (base F1 F2 : Nat) (b1 b2 v1 v2 : Value) (fs ks : List Int) : Prop where
  c1 : w.cell? ⟨F1, 0, none⟩ = some b1
  c2 : w.cell? ⟨F2, 0, none⟩ = some b2
  z1 : w.frozen? ⟨F1, 0, none⟩ = false
  z2 : w.frozen? ⟨F2, 0, none⟩ = false
  o1 : w.ownsRow base 2 1 v1 fs.length (iv fs)
  o2 : w.ownsRow base 2 1 v2 ks.length (iv ks)
  ap : ∀ g, v1.ownBlock = some g → v2.ownBlock ≠ some g
  l1 : F1 < base
  l2 : F2 < base
  ne : F1 ≠ F2
  bs : base ≤ w.heap.size
variable {w w' : World} {base F1 F2 : Nat} {b1 b2 v1 v2 : Value} {fs ks : List Int}
theorem NetM.gr (h : NetM w base F1 F2 b1 b2 v1 v2 fs ks) (g : Gr w w') : NetM w' base F1 F2 b1 b2 v1 v2 fs ks := by
  have h1 := h.l1; have h2 := h.l2; have h3 := h.bs
  exact ⟨g.keep h.c1, g.keep h.c2, g.keepF (by show F1 < _; omega) h.z1, g.keepF (by show F2 < _; omega) h.z2, own_gr2 h.o1 g, own_gr2 h.o2 g, h.ap, h1, h2, h.ne, Nat.le_trans h3 g.size⟩
theorem grown_frozen {row : Option Nat} (hg : w.grownBy w' row) {a : Addr} (hb : a.block < w.heap.size) (hne : some a.block ≠ row) (h : w.frozen? a = false) : w'.frozen? a = false := by
  rw [World.frozen?_of_block (hg.block _ hb hne)]; exact h
theorem NetM.app1 (h : NetM w base F1 F2 b1 b2 v1 v2 fs ks) {u : Value} {x : Int} (ho : w'.ownsRow base 2 1 u (fs.length + 1) (iv fs ++ [.int .i64 x])) (hg : w.grownBy w' v1.ownBlock) (hat : u.ownBlock = v1.ownBlock ∨ u.ownBlock = some w.heap.size) :
    NetM w' base F1 F2 b1 b2 u v2 (fs ++ [x]) ks := by
  have h1 := h.l1; have h2 := h.l2; have h3 := h.bs
  have n1 : some F1 ≠ v1.ownBlock := fun e => by have := (h.o1.lt _ e.symm).1; omega
  have n2 : some F2 ≠ v1.ownBlock := fun e => by have := (h.o1.lt _ e.symm).1; omega
  refine ⟨hg.cell h.c1 n1, hg.cell h.c2 n2, grown_frozen hg (by show F1 < _; omega) n1 h.z1, grown_frozen hg (by show F2 < _; omega) n2 h.z2, ?_, h.o2.kept hg ?_, ?_, h1, h2, h.ne, Nat.le_trans h3 hg.size⟩
  · have : iv (fs ++ [x]) = iv fs ++ [.int .i64 x] := by unfold iv; simp
    rw [this, List.length_append]; exact ho
  · cases hv : v2.ownBlock with
    | none => exact Or.inl rfl
    | some g => exact Or.inr fun e => h.ap g e.symm hv
  · intro g hu hv
    rcases hat with e | e
    · exact h.ap g (by rw [← e]; exact hu) hv
    · rw [e] at hu; cases hu
      have := (h.o2.lt _ hv).2; omega
theorem NetM.app2 (h : NetM w base F1 F2 b1 b2 v1 v2 fs ks) {u : Value} {x : Int} (ho : w'.ownsRow base 2 1 u (ks.length + 1) (iv ks ++ [.int .i64 x])) (hg : w.grownBy w' v2.ownBlock) (hat : u.ownBlock = v2.ownBlock ∨ u.ownBlock = some w.heap.size) :
    NetM w' base F1 F2 b1 b2 v1 u fs (ks ++ [x]) := by
  have h1 := h.l1; have h2 := h.l2; have h3 := h.bs
  have n1 : some F1 ≠ v2.ownBlock := fun e => by have := (h.o2.lt _ e.symm).1; omega
  have n2 : some F2 ≠ v2.ownBlock := fun e => by have := (h.o2.lt _ e.symm).1; omega
  refine ⟨hg.cell h.c1 n1, hg.cell h.c2 n2, grown_frozen hg (by show F1 < _; omega) n1 h.z1, grown_frozen hg (by show F2 < _; omega) n2 h.z2, h.o1.kept hg ?_, ?_, ?_, h1, h2, h.ne, Nat.le_trans h3 hg.size⟩
  · cases hv : v1.ownBlock with
    | none => exact Or.inl rfl
    | some g => exact Or.inr fun e => h.ap g hv e.symm
  · have : iv (ks ++ [x]) = iv ks ++ [.int .i64 x] := by unfold iv; simp
    rw [this, List.length_append]; exact ho
  · intro g hu hv
    rcases hat with e | e
    · exact h.ap g hu (by rw [← e]; exact hv)
    · rw [e] at hv; cases hv
      have := (h.o1.lt _ hu).2; omega
theorem NetM.stores (h : NetM w base F1 F2 b1 b2 v1 v2 fs ks) : NetM ((w.setCell ⟨F1, 0, none⟩ v1).setCell ⟨F2, 0, none⟩ v2) base F1 F2 v1 v2 v1 v2 fs ks := by
  have h1 := h.l1; have h2 := h.l2; have h3 := h.bs; have h4 := h.ne; have h5 := h.c1; have h6 := h.c2; have h7 := h.z1; have h8 := h.z2
  have m1 : ∀ i, i < base → v1.ownBlock ≠ some i := fun i hi e => by have := (h.o1.lt _ e).1; omega
  have m2 : ∀ i, i < base → v2.ownBlock ≠ some i := fun i hi e => by have := (h.o2.lt _ e).1; omega
  have h9 : ¬ F2 = F1 := fun e => h4 e.symm
  exact ⟨by simp [go_sem, *], by simp [go_sem, *], by simp [go_sem, *], by simp [go_sem, *], own_far (own_far h.o1 _ _ (m1 _ h1)) _ _ (m1 _ h2), own_far (own_far h.o2 _ _ (m2 _ h1)) _ _ (m2 _ h2), h.ap, h1, h2, h4, by simp; exact h3⟩
theorem NetM.grown1 (h : NetM w base F1 F2 b1 b2 v1 v2 fs ks) {w0 : World} (g : Gr w0 w) (hb : w0.heap.size ≤ base) (hg : w.grownBy w' v1.ownBlock) : Gr w0 w' := g.grown hg (fun k e => by have := (h.o1.lt _ e).1; omega)
theorem NetM.grown2 (h : NetM w base F1 F2 b1 b2 v1 v2 fs ks) {w0 : World} (g : Gr w0 w) (hb : w0.heap.size ≤ base) (hg : w.grownBy w' v2.ownBlock) : Gr w0 w' := g.grown hg (fun k e => by have := (h.o2.lt _ e).1; omega)
set_option maxHeartbeats 4000000 in
set_option maxRecDepth 100000 in
theorem net1_yes (m : Mk) (free kept : Int) (N H F1 F2 base : Nat) (s a : ByteArray) (v1 v2 : Value) (fs ks : List Int) (w0 w : World) (hN : w0.cell? ⟨N, 0, none⟩ = some (.string s)) (hH : w0.cell? ⟨H, 0, none⟩ = some (.string a)) (hg : Gr w0 w) (h : NetM w base F1 F2 v1 v2 v1 v2 fs ks) (hF1 : w0.heap.size ≤ F1) (hF2 : w0.heap.size ≤ F2)
    (ht : m.t = s) (hst : m.st ≠ 2) (hp : Lib.hasPrefix m.key.data.toList a.data.toList = true) (hn : fs.length ≤ 1000 ∧ ks.length ≤ 1000) :
    Calls Try.prog 34 #[.agg #[.string m.key, .int .i64 m.k, .string m.t, .int .i64 m.n, .int .i64 m.st], .int .i64 free, .int .i64 kept, .pointer (some ⟨N, 0, none⟩), .pointer (some ⟨H, 0, none⟩), .pointer (some ⟨F1, 0, none⟩), .pointer (some ⟨F2, 0, none⟩)] w fun e w' => e = .returned (.tuple #[]) ∧ (∃ u1 u2, NetM w' base F1 F2 u1 u2 u1 u2 (fs ++ [free]) (ks ++ [kept])) ∧ Gr w0 w' := by
  have HHP : Hid (∀ w', Calls Try.prog 35 #[.string m.key, .string a] w' fun e w2 => e = .returned (.bool true) ∧ w2 = w') := fun w' => by have := Try.strings_HasPrefix m.key a w'; rw [hp] at this; exact this
  obtain ⟨i0, hi, hz0, hz1, hz2⟩ := info_parts infoI
  have n0 := hg.keep hN
  have h0 := hg.keep hH
  have nl : N < w.heap.size := World.block_lt_of_cell? w _ n0
  have hl : H < w.heap.size := World.block_lt_of_cell? w _ h0
  have hqt : (m.t.toList == s.toList) = true := by rw [ht]; simp
  have hqs : (m.st != 2) = true := by simpa using hst
  have HNA : Hid (NetM w base F1 F2 v1 v2 v1 v2 fs ks) := h
  have HG : Hid (Gr w0 w) := hg
  have HBS : Hid (w0.heap.size ≤ base) := by show _ ≤ _; have := h.l1; omega
  have n63a : fs.length + 1 ≤ maxLen := by unfold maxLen; omega
  have n63b : ks.length + 1 ≤ maxLen := by unfold maxLen; omega
  clear ht hst hp hN hH h hg
  go_enter Try.func34, Try.ntmps34
  go_wp2_with fail
  refine (HHP.out _).mono ?_
  rintro e w1 ⟨rfl, hw1⟩; obtain rfl := hw1.symm
  go_upto_region 2 with fail
  obtain ⟨W, hW⟩ : ∃ W, W = w.alloc (.cells #[.string m.key, .int .i64 m.k, .string m.t, .int .i64 m.n, .int .i64 m.st] 64) := ⟨_, rfl⟩
  have HN0 : Hid (NetM W.drew base F1 F2 v1 v2 v1 v2 fs ks) := by show NetM _ _ _ _ _ _ _ _ _ _; rw [hW]; exact HNA.out.gr (Gr.refl _).alloc.drew
  have HG0 : Hid (Gr w0 W.drew) := by show Gr _ _; rw [hW]; exact HG.out.alloc.drew
  rw [← hW]
  clear hW HNA HG HHP n0 h0 nl hl hqt hqs
  have hk : W.drew.cell? ⟨F1, 0, none⟩ = some v1 ∧ W.drew.cell? ⟨F2, 0, none⟩ = some v2 := ⟨HN0.out.c1, HN0.out.c2⟩
  have x1 : F1 < base := HN0.out.l1
  have x2 : F2 < base := HN0.out.l2
  refine beginL 8 (fun w' => w'.cell? ⟨F1, 0, none⟩ = some v1 ∧ w'.cell? ⟨F2, 0, none⟩ = some v2) (by kernel_rfl) (by exact hk) (fun hHeld => ?_)
  refine takeS 0 26 (v := ?_) rfl rfl (by decide) (by kernel_rfl) (by kernel_rfl) (by kernel_rfl) (by kernel_rfl) (by kernel_rfl) (fun _ _ _ h => h) (by rfl) ?_ hHeld ?_
  rotate_left
  · (intro w; (try intro hSw); (try dsimp only at hSw); go_simp; try with_reducible rfl)
  simp only [Act.put, List.setIfInBounds_toArray, List.set_cons_zero, List.set_cons_succ]
  refine takeW 1 27 (v := ?_) rfl rfl (by decide) (by kernel_rfl) (by kernel_rfl) (by kernel_rfl) (fun _ _ _ h => h) (by rfl) ?_ (fun _ => hHeld) ?_
  rotate_left
  · (intro w; (try intro hSw); (try dsimp only at hSw); go_simp; try with_reducible rfl)
  simp only [Act.put, List.setIfInBounds_toArray, List.set_cons_zero, List.set_cons_succ]
  refine takeT 4 30 7 (v := ?_) rfl rfl (by decide) (by decide) (by kernel_rfl) (by kernel_rfl) (by kernel_rfl) (by kernel_rfl) (by kernel_rfl) (by kernel_rfl) (by kernel_rfl) (fun _ _ _ h => h) (by rfl) ?_ hHeld ?_
  rotate_left
  · (intro w; (try intro hSw); (try dsimp only at hSw); go_simp; try with_reducible rfl)
  simp only [Act.put, List.setIfInBounds_toArray, List.set_cons_zero, List.set_cons_succ]
  refine takeW 5 31 (v := ?_) rfl rfl (by decide) (by kernel_rfl) (by kernel_rfl) (by kernel_rfl) (fun _ _ _ h => h) (by rfl) ?_ (fun _ => hHeld) ?_
  rotate_left
  · (intro w; (try intro hSw); (try dsimp only at hSw); go_simp; try with_reducible rfl)
  simp only [Act.put, List.setIfInBounds_toArray, List.set_cons_zero, List.set_cons_succ]
  clear hk hHeld
  obtain ⟨V, hV⟩ : ∃ V, V = W.drew := ⟨_, rfl⟩
  rw [← hV] at HN0 HG0 ⊢
  clear hV
  refine stepC2 2 6 (by kernel_rfl) rfl rfl (fun K hK => ?_) (fun K hK => ?_)
  · skip
    go_simp
    have HN1 : Hid (NetM (V.alloc (.cells #[.int .i64 free] 2)) base F1 F2 v1 v2 v1 v2 fs ks) := HN0.out.gr (Gr.refl _).alloc
    have HG1 : Hid (Gr w0 (V.alloc (.cells #[.int .i64 free] 2))) := HG0.out.alloc
    have HC1 : Hid (∀ j u, [Value.int .i64 free][j]? = some u → (V.alloc (.cells #[.int .i64 free] 2)).cell? ((⟨V.heap.size, 0, none⟩ : Addr).add j) = some u) := cell_one_new _ _ _
    have HQ1 : Hid (v1.ownBlock ≠ some V.heap.size ∧ v2.ownBlock ≠ some V.heap.size) := ⟨fun e => by have := (HN0.out.o1.lt _ e).2; omega, fun e => by have := (HN0.out.o2.lt _ e).2; omega⟩
    obtain ⟨W1, hW1⟩ : ∃ x, x = V.alloc (.cells #[.int .i64 free] 2) := ⟨_, rfl⟩
    rw [← hW1] at HN1 HG1 HC1 ⊢
    clear hW1
    refine hK.out _ _ ⟨HN1.out.c1, HN1.out.c2⟩ ?_
    clear hK K
    refine stepC2 3 6 (by kernel_rfl) rfl rfl (fun K hK => ?_) (fun K hK => ?_)
    · skip
      refine step_append_at (by rfl) _ _ 71 (by rfl) base 2 i0 (.int .i64 0) 1 8 Try.underlying71 hi hz0 hz1 hz2 rfl (by decide) v1 fs.length (iv fs) (by rfl) HN1.out.o1 ⟨V.heap.size, 0, none⟩ 1 1 [.int .i64 free] (by rfl) rfl HC1.out (by intro u hu; simp at hu; subst hu; rfl) n63a (by omega) HN1.out.bs ?_
      intro u1 W2 hown hgrow hat
      have HN2 : Hid (NetM W2 base F1 F2 v1 v2 u1 v2 (fs ++ [free]) ks) := HN1.out.app1 hown hgrow hat
      have HG2 : Hid (Gr w0 W2) := HN1.out.grown1 HG1.out HBS.out hgrow
      clear hown hgrow hat
      refine hK.out _ _ ⟨HN2.out.c1, HN2.out.c2⟩ ?_
      clear hK K
      refine stepC 6 (by kernel_rfl) rfl (fun K hK => ?_)
      go_simp
      have HN3 : Hid (NetM (W2.alloc (.cells #[.int .i64 kept] 2)) base F1 F2 v1 v2 u1 v2 (fs ++ [free]) ks) := HN2.out.gr (Gr.refl _).alloc
      have HG3 : Hid (Gr w0 (W2.alloc (.cells #[.int .i64 kept] 2))) := HG2.out.alloc
      have HC2 : Hid (∀ j u, [Value.int .i64 kept][j]? = some u → (W2.alloc (.cells #[.int .i64 kept] 2)).cell? ((⟨W2.heap.size, 0, none⟩ : Addr).add j) = some u) := cell_one_new _ _ _
      have HQ2 : Hid (u1.ownBlock ≠ some W2.heap.size ∧ v2.ownBlock ≠ some W2.heap.size) := ⟨fun e => by have := (HN2.out.o1.lt _ e).2; omega, fun e => by have := (HN2.out.o2.lt _ e).2; omega⟩
      obtain ⟨W3, hW3⟩ : ∃ x, x = W2.alloc (.cells #[.int .i64 kept] 2) := ⟨_, rfl⟩
      rw [← hW3] at HN3 HG3 HC2 ⊢
      clear hW3
      refine hK.out _ _ ⟨HN3.out.c1, HN3.out.c2⟩ (fun _ => ?_)
      clear hK K
      refine stepC 7 (by kernel_rfl) rfl (fun K hK => ?_)
      refine step_append_at (by rfl) _ _ 71 (by rfl) base 2 i0 (.int .i64 0) 1 8 Try.underlying71 hi hz0 hz1 hz2 rfl (by decide) v2 ks.length (iv ks) (by rfl) HN3.out.o2 ⟨W2.heap.size, 0, none⟩ 1 1 [.int .i64 kept] (by rfl) rfl HC2.out (by intro u hu; simp at hu; subst hu; rfl) n63b (by omega) HN3.out.bs ?_
      intro u2 W4 hown hgrow hat
      have HN4 : Hid (NetM W4 base F1 F2 v1 v2 u1 u2 (fs ++ [free]) (ks ++ [kept])) := HN3.out.app2 hown hgrow hat
      have HG4 : Hid (Gr w0 W4) := HN3.out.grown2 HG3.out HBS.out hgrow
      clear hown hgrow hat
      refine hK.out _ _ ⟨HN4.out.c1, HN4.out.c2⟩ (fun _ => ?_)
      clear hK K
      obtain ⟨p1, q1, rfl⟩ := own_slice HN4.out.o1
      obtain ⟨p2, q2, rfl⟩ := own_slice HN4.out.o2
      refine stepS (by kernel_rfl) rfl (by kernel_rfl) (fun K hK => ?_)
      have c1 := HN4.out.c1
      have c2 := HN4.out.c2
      have z1 := HN4.out.z1
      have z2 := HN4.out.z2
      have bz := HN4.out.bs
      have hne := HN4.out.ne
      have hne2 : ¬ F2 = F1 := fun e => hne e.symm
      go_simp
      refine hK.out _ _ ?_
      clear hK K
      refine stepL 9 (by kernel_rfl) rfl (fun K hK => ?_)
      go_simp
      refine hK.out _ _ (fun h => listed_done (by kernel_rfl) h) ?_
      clear hK K
      refine doneL (by kernel_rfl) ?_ _
      go_wp2
      go_end0
      have hst := HN4.out.stores
      simp only [List.length_append, List.length_cons, List.length_nil, Nat.zero_add] at hst
      exact ⟨rfl, ⟨_, _, hst⟩, (HG4.out.set _ hF1 _).set _ hF2 _⟩
    · skip
      go_simp
      have HN2 : Hid (NetM (W1.alloc (.cells #[.int .i64 kept] 2)) base F1 F2 v1 v2 v1 v2 fs ks) := HN1.out.gr (Gr.refl _).alloc
      have HG2 : Hid (Gr w0 (W1.alloc (.cells #[.int .i64 kept] 2))) := HG1.out.alloc
      have HC2 : Hid (∀ j u, [Value.int .i64 kept][j]? = some u → (W1.alloc (.cells #[.int .i64 kept] 2)).cell? ((⟨W1.heap.size, 0, none⟩ : Addr).add j) = some u) := cell_one_new _ _ _
      have HQ2 : Hid (v1.ownBlock ≠ some W1.heap.size ∧ v2.ownBlock ≠ some W1.heap.size) := ⟨fun e => by have := (HN1.out.o1.lt _ e).2; omega, fun e => by have := (HN1.out.o2.lt _ e).2; omega⟩
      have HC1b : Hid (∀ j u, [Value.int .i64 free][j]? = some u → (W1.alloc (.cells #[.int .i64 kept] 2)).cell? ((⟨V.heap.size, 0, none⟩ : Addr).add j) = some u) := fun j u hj => (Gr.refl _).alloc.keep (HC1.out j u hj)
      clear HC1
      have HC1 := HC1b
      clear HC1b
      obtain ⟨W2, hW2⟩ : ∃ x, x = W1.alloc (.cells #[.int .i64 kept] 2) := ⟨_, rfl⟩
      rw [← hW2] at HN2 HG2 HC2 HC1 ⊢
      clear hW2
      refine hK.out _ _ ⟨HN2.out.c1, HN2.out.c2⟩ ?_
      clear hK K
      refine stepC 3 (by kernel_rfl) rfl (fun K hK => ?_)
      refine step_append_at (by rfl) _ _ 71 (by rfl) base 2 i0 (.int .i64 0) 1 8 Try.underlying71 hi hz0 hz1 hz2 rfl (by decide) v1 fs.length (iv fs) (by rfl) HN2.out.o1 ⟨V.heap.size, 0, none⟩ 1 1 [.int .i64 free] (by rfl) rfl HC1.out (by intro u hu; simp at hu; subst hu; rfl) n63a (by omega) HN2.out.bs ?_
      intro u1 W3 hown hgrow hat
      have HN3 : Hid (NetM W3 base F1 F2 v1 v2 u1 v2 (fs ++ [free]) ks) := HN2.out.app1 hown hgrow hat
      have HG3 : Hid (Gr w0 W3) := HN2.out.grown1 HG2.out HBS.out hgrow
      have HC2 : Hid (∀ j u, [Value.int .i64 kept][j]? = some u → W3.cell? ((⟨W1.heap.size, 0, none⟩ : Addr).add j) = some u) := fun j u hj => hgrow.cell (HC2.out j u hj) (fun e => HQ2.out.1 (by rw [Addr.add_lit] at e; exact e.symm))
      clear hown hgrow hat
      refine hK.out _ _ ⟨HN3.out.c1, HN3.out.c2⟩ (fun _ => ?_)
      clear hK K
      refine stepC 7 (by kernel_rfl) rfl (fun K hK => ?_)
      refine step_append_at (by rfl) _ _ 71 (by rfl) base 2 i0 (.int .i64 0) 1 8 Try.underlying71 hi hz0 hz1 hz2 rfl (by decide) v2 ks.length (iv ks) (by rfl) HN3.out.o2 ⟨W1.heap.size, 0, none⟩ 1 1 [.int .i64 kept] (by rfl) rfl HC2.out (by intro u hu; simp at hu; subst hu; rfl) n63b (by omega) HN3.out.bs ?_
      intro u2 W4 hown hgrow hat
      have HN4 : Hid (NetM W4 base F1 F2 v1 v2 u1 u2 (fs ++ [free]) (ks ++ [kept])) := HN3.out.app2 hown hgrow hat
      have HG4 : Hid (Gr w0 W4) := HN3.out.grown2 HG3.out HBS.out hgrow
      clear hown hgrow hat
      refine hK.out _ _ ⟨HN4.out.c1, HN4.out.c2⟩ (fun _ => ?_)
      clear hK K
      obtain ⟨p1, q1, rfl⟩ := own_slice HN4.out.o1
      obtain ⟨p2, q2, rfl⟩ := own_slice HN4.out.o2
      refine stepS (by kernel_rfl) rfl (by kernel_rfl) (fun K hK => ?_)
      have c1 := HN4.out.c1
      have c2 := HN4.out.c2
      have z1 := HN4.out.z1
      have z2 := HN4.out.z2
      have bz := HN4.out.bs
      have hne := HN4.out.ne
      have hne2 : ¬ F2 = F1 := fun e => hne e.symm
      go_simp
      refine hK.out _ _ ?_
      clear hK K
      refine stepL 9 (by kernel_rfl) rfl (fun K hK => ?_)
      go_simp
      refine hK.out _ _ (fun h => listed_done (by kernel_rfl) h) ?_
      clear hK K
      refine doneL (by kernel_rfl) ?_ _
      go_wp2
      go_end0
      have hst := HN4.out.stores
      simp only [List.length_append, List.length_cons, List.length_nil, Nat.zero_add] at hst
      exact ⟨rfl, ⟨_, _, hst⟩, (HG4.out.set _ hF1 _).set _ hF2 _⟩
  · skip
    go_simp
    have HN1 : Hid (NetM (V.alloc (.cells #[.int .i64 kept] 2)) base F1 F2 v1 v2 v1 v2 fs ks) := HN0.out.gr (Gr.refl _).alloc
    have HG1 : Hid (Gr w0 (V.alloc (.cells #[.int .i64 kept] 2))) := HG0.out.alloc
    have HC2 : Hid (∀ j u, [Value.int .i64 kept][j]? = some u → (V.alloc (.cells #[.int .i64 kept] 2)).cell? ((⟨V.heap.size, 0, none⟩ : Addr).add j) = some u) := cell_one_new _ _ _
    have HQ2 : Hid (v1.ownBlock ≠ some V.heap.size ∧ v2.ownBlock ≠ some V.heap.size) := ⟨fun e => by have := (HN0.out.o1.lt _ e).2; omega, fun e => by have := (HN0.out.o2.lt _ e).2; omega⟩
    obtain ⟨W1, hW1⟩ : ∃ x, x = V.alloc (.cells #[.int .i64 kept] 2) := ⟨_, rfl⟩
    rw [← hW1] at HN1 HG1 HC2 ⊢
    clear hW1
    refine hK.out _ _ ⟨HN1.out.c1, HN1.out.c2⟩ ?_
    clear hK K
    refine stepC 2 (by kernel_rfl) rfl (fun K hK => ?_)
    go_simp
    have HN2 : Hid (NetM (W1.alloc (.cells #[.int .i64 free] 2)) base F1 F2 v1 v2 v1 v2 fs ks) := HN1.out.gr (Gr.refl _).alloc
    have HG2 : Hid (Gr w0 (W1.alloc (.cells #[.int .i64 free] 2))) := HG1.out.alloc
    have HC1 : Hid (∀ j u, [Value.int .i64 free][j]? = some u → (W1.alloc (.cells #[.int .i64 free] 2)).cell? ((⟨W1.heap.size, 0, none⟩ : Addr).add j) = some u) := cell_one_new _ _ _
    have HQ1 : Hid (v1.ownBlock ≠ some W1.heap.size ∧ v2.ownBlock ≠ some W1.heap.size) := ⟨fun e => by have := (HN1.out.o1.lt _ e).2; omega, fun e => by have := (HN1.out.o2.lt _ e).2; omega⟩
    have HC2b : Hid (∀ j u, [Value.int .i64 kept][j]? = some u → (W1.alloc (.cells #[.int .i64 free] 2)).cell? ((⟨V.heap.size, 0, none⟩ : Addr).add j) = some u) := fun j u hj => (Gr.refl _).alloc.keep (HC2.out j u hj)
    clear HC2
    have HC2 := HC2b
    clear HC2b
    obtain ⟨W2, hW2⟩ : ∃ x, x = W1.alloc (.cells #[.int .i64 free] 2) := ⟨_, rfl⟩
    rw [← hW2] at HN2 HG2 HC1 HC2 ⊢
    clear hW2
    refine hK.out _ _ ⟨HN2.out.c1, HN2.out.c2⟩ (fun _ => ?_)
    clear hK K
    refine stepC 3 (by kernel_rfl) rfl (fun K hK => ?_)
    refine step_append_at (by rfl) _ _ 71 (by rfl) base 2 i0 (.int .i64 0) 1 8 Try.underlying71 hi hz0 hz1 hz2 rfl (by decide) v1 fs.length (iv fs) (by rfl) HN2.out.o1 ⟨W1.heap.size, 0, none⟩ 1 1 [.int .i64 free] (by rfl) rfl HC1.out (by intro u hu; simp at hu; subst hu; rfl) n63a (by omega) HN2.out.bs ?_
    intro u1 W3 hown hgrow hat
    have HN3 : Hid (NetM W3 base F1 F2 v1 v2 u1 v2 (fs ++ [free]) ks) := HN2.out.app1 hown hgrow hat
    have HG3 : Hid (Gr w0 W3) := HN2.out.grown1 HG2.out HBS.out hgrow
    have HC2 : Hid (∀ j u, [Value.int .i64 kept][j]? = some u → W3.cell? ((⟨V.heap.size, 0, none⟩ : Addr).add j) = some u) := fun j u hj => hgrow.cell (HC2.out j u hj) (fun e => HQ2.out.1 (by rw [Addr.add_lit] at e; exact e.symm))
    clear hown hgrow hat
    refine hK.out _ _ ⟨HN3.out.c1, HN3.out.c2⟩ (fun _ => ?_)
    clear hK K
    refine stepC 7 (by kernel_rfl) rfl (fun K hK => ?_)
    refine step_append_at (by rfl) _ _ 71 (by rfl) base 2 i0 (.int .i64 0) 1 8 Try.underlying71 hi hz0 hz1 hz2 rfl (by decide) v2 ks.length (iv ks) (by rfl) HN3.out.o2 ⟨V.heap.size, 0, none⟩ 1 1 [.int .i64 kept] (by rfl) rfl HC2.out (by intro u hu; simp at hu; subst hu; rfl) n63b (by omega) HN3.out.bs ?_
    intro u2 W4 hown hgrow hat
    have HN4 : Hid (NetM W4 base F1 F2 v1 v2 u1 u2 (fs ++ [free]) (ks ++ [kept])) := HN3.out.app2 hown hgrow hat
    have HG4 : Hid (Gr w0 W4) := HN3.out.grown2 HG3.out HBS.out hgrow
    clear hown hgrow hat
    refine hK.out _ _ ⟨HN4.out.c1, HN4.out.c2⟩ (fun _ => ?_)
    clear hK K
    obtain ⟨p1, q1, rfl⟩ := own_slice HN4.out.o1
    obtain ⟨p2, q2, rfl⟩ := own_slice HN4.out.o2
    refine stepS (by kernel_rfl) rfl (by kernel_rfl) (fun K hK => ?_)
    have c1 := HN4.out.c1
    have c2 := HN4.out.c2
    have z1 := HN4.out.z1
    have z2 := HN4.out.z2
    have bz := HN4.out.bs
    have hne := HN4.out.ne
    have hne2 : ¬ F2 = F1 := fun e => hne e.symm
    go_simp
    refine hK.out _ _ ?_
    clear hK K
    refine stepL 9 (by kernel_rfl) rfl (fun K hK => ?_)
    go_simp
    refine hK.out _ _ (fun h => listed_done (by kernel_rfl) h) ?_
    clear hK K
    refine doneL (by kernel_rfl) ?_ _
    go_wp2
    go_end0
    have hst := HN4.out.stores
    simp only [List.length_append, List.length_cons, List.length_nil, Nat.zero_add] at hst
    exact ⟨rfl, ⟨_, _, hst⟩, (HG4.out.set _ hF1 _).set _ hF2 _⟩
set_option maxHeartbeats 2000000 in
set_option maxRecDepth 100000 in
theorem net1_not (m : Mk) (free kept : Int) (N H F1 F2 base : Nat) (s a : ByteArray) (v1 v2 : Value) (fs ks : List Int) (w0 w : World) (hN : w0.cell? ⟨N, 0, none⟩ = some (.string s)) (hH : w0.cell? ⟨H, 0, none⟩ = some (.string a)) (hg : Gr w0 w) (h : NetM w base F1 F2 v1 v2 v1 v2 fs ks)
    (hno : ¬ (m.t = s ∧ m.st ≠ 2 ∧ Lib.hasPrefix m.key.data.toList a.data.toList = true)) :
    Calls Try.prog 34 #[.agg #[.string m.key, .int .i64 m.k, .string m.t, .int .i64 m.n, .int .i64 m.st], .int .i64 free, .int .i64 kept, .pointer (some ⟨N, 0, none⟩), .pointer (some ⟨H, 0, none⟩), .pointer (some ⟨F1, 0, none⟩), .pointer (some ⟨F2, 0, none⟩)] w fun e w' => e = .returned (.tuple #[]) ∧ (∃ u1 u2, NetM w' base F1 F2 u1 u2 u1 u2 fs ks) ∧ Gr w0 w' := by
  have HHP : Hid (∀ w', Calls Try.prog 35 #[.string m.key, .string a] w' fun e w2 => e = .returned (.bool (Lib.hasPrefix m.key.data.toList a.data.toList)) ∧ w2 = w') := fun w' => Try.strings_HasPrefix m.key a w'
  have n0 := hg.keep hN
  have h0 := hg.keep hH
  have nl : N < w.heap.size := World.block_lt_of_cell? w _ n0
  have hl : H < w.heap.size := World.block_lt_of_cell? w _ h0
  have HNA : Hid (NetM w base F1 F2 v1 v2 v1 v2 fs ks) := h
  have HG : Hid (Gr w0 w) := hg
  clear hN hH h hg
  by_cases ht : m.t = s
  · have hqt : (m.t.toList == s.toList) = true := by rw [ht]; simp
    by_cases hst : m.st = 2
    · have hqs : (m.st != 2) = false := by simpa using hst
      clear hno ht hst
      go_enter Try.func34, Try.ntmps34
      go_wp2
      go_end0
      exact ⟨rfl, ⟨_, _, HNA.out.gr (Gr.refl _).alloc⟩, HG.out.alloc⟩
    · have hqs : (m.st != 2) = true := by simpa using hst
      have hpf : Lib.hasPrefix m.key.data.toList a.data.toList = false := by
        cases hb : Lib.hasPrefix m.key.data.toList a.data.toList with
        | false => rfl
        | true => exact absurd ⟨ht, hst, hb⟩ hno
      rw [hpf] at HHP
      clear hno ht hst hpf
      go_enter Try.func34, Try.ntmps34
      go_wp2_with fail
      refine (HHP.out _).mono ?_
      rintro e w1 ⟨rfl, hw1⟩; obtain rfl := hw1.symm
      go_wp2
      go_end0
      exact ⟨rfl, ⟨_, _, HNA.out.gr (Gr.refl _).alloc⟩, HG.out.alloc⟩
  · have hqt := neB ht
    clear hno ht
    go_enter Try.func34, Try.ntmps34
    go_wp2
    go_end0
    exact ⟨rfl, ⟨_, _, HNA.out.gr (Gr.refl _).alloc⟩, HG.out.alloc⟩
end Go.Proofs.Ytgidkmipecfjhaa
namespace Go.Proofs.Ytgidkmipecfjhaa
open Go.RowKit
open Led (Acc Mk)
def effB (s a : ByteArray) (m : Mk) : Bool := decide (m.t = s) && !decide (m.st = 2) && Lib.hasPrefix m.key.data.toList a.data.toList
def fsL (s a : ByteArray) (M : List Mk) : List Int := (M.filter (effB s a)).map Led.amF
def ksL (s a : ByteArray) (M : List Mk) : List Int := (M.filter (effB s a)).map Led.amK
theorem eff_iff (s a : ByteArray) (m : Mk) : effB s a m = true ↔ m.t = s ∧ m.st ≠ 2 ∧ Lib.hasPrefix m.key.data.toList a.data.toList = true := by
  unfold effB
  simp only [Bool.and_eq_true, decide_eq_true_eq, Bool.not_eq_true', decide_eq_false_iff_not]
  constructor
  · rintro ⟨⟨a, b⟩, c⟩; exact ⟨a, b, c⟩
  · rintro ⟨a, b, c⟩; exact ⟨⟨a, b⟩, c⟩
theorem fs_yes {s a : ByteArray} {M : List Mk} {k : Nat} (h : k < M.length) (he : effB s a M[k] = true) : fsL s a (M.take (k + 1)) = fsL s a (M.take k) ++ [Led.amF M[k]] ∧ ksL s a (M.take (k + 1)) = ksL s a (M.take k) ++ [Led.amK M[k]] := by
  unfold fsL ksL
  rw [List.take_succ_eq_append_getElem h, List.filter_append]
  simp [he]
theorem fs_not {s a : ByteArray} {M : List Mk} {k : Nat} (h : k < M.length) (he : ¬ effB s a M[k] = true) : fsL s a (M.take (k + 1)) = fsL s a (M.take k) ∧ ksL s a (M.take (k + 1)) = ksL s a (M.take k) := by
  unfold fsL ksL
  rw [List.take_succ_eq_append_getElem h, List.filter_append]
  simp [he]
theorem fs_len (s a : ByteArray) (M : List Mk) : (fsL s a M).length ≤ M.length ∧ (ksL s a M).length ≤ M.length := by
  unfold fsL ksL
  rw [List.length_map, List.length_map]
  exact ⟨List.length_filter_le _ _, List.length_filter_le _ _⟩
theorem own_none (w : World) (base : Nat) (e : TypeId) (size : Nat) : w.ownsRow base e size (.slice none 0 0) 0 [] := ⟨by simp, Or.inl ⟨rfl, rfl⟩⟩
theorem sum_within {l : List Int} (B : Int) (h : ∀ a ∈ l, -B ≤ a ∧ a ≤ B) : -(B * l.length) ≤ Csh.sumE l ∧ Csh.sumE l ≤ B * l.length := by
  induction l with
  | nil => simp [Csh.sumE]
  | cons x t ih =>
    have h1 := h x (by simp)
    have h2 := ih (fun a ha => h a (by simp [ha]))
    rw [Csh.sum_cons, List.length_cons, Int.natCast_succ, Int.mul_add, Int.mul_one]
    omega
theorem fs_rng {A : List Acc} {M : List Mk} (s a : ByteArray) (hok : ∀ m ∈ M, Led.mkOk A m = true) : (∀ x ∈ fsL s a M, -1000000000000000 ≤ x ∧ x ≤ 1000000000000000) ∧ (∀ x ∈ ksL s a M, -1000000000000000 ≤ x ∧ x ≤ 1000000000000000) := by
  unfold fsL ksL
  refine ⟨fun x hx => ?_, fun x hx => ?_⟩
  · obtain ⟨m, hm, rfl⟩ := List.mem_map.1 hx
    exact (Led.am_rng ((Led.mk_iff A m).1 (hok m (List.mem_filter.1 hm).1)).2.1).1
  · obtain ⟨m, hm, rfl⟩ := List.mem_map.1 hx
    exact (Led.am_rng ((Led.mk_iff A m).1 (hok m (List.mem_filter.1 hm).1)).2.1).2
set_option maxHeartbeats 4000000 in
set_option maxRecDepth 100000 in
theorem changesN_any (A : List Acc) (M : List Mk) (ad : Option Addr) (cap N H F1 F2 base : Nat) (s a : ByteArray) (w0 w : World) (hM : MksAt w0 ad M) (hmk : Led.mksB A M = true)
    (hN : w0.cell? ⟨N, 0, none⟩ = some (.string s)) (hH : w0.cell? ⟨H, 0, none⟩ = some (.string a)) (hF1 : w0.heap.size ≤ F1) (hF2 : w0.heap.size ≤ F2) (hg : Gr w0 w) (hf : NetM w base F1 F2 (.slice none 0 0) (.slice none 0 0) (.slice none 0 0) (.slice none 0 0) [] []) :
    Calls Try.prog 33 #[.slice ad M.length cap, .func (.func 34) #[] #[.pointer (some ⟨N, 0, none⟩), .pointer (some ⟨H, 0, none⟩), .pointer (some ⟨F1, 0, none⟩), .pointer (some ⟨F2, 0, none⟩)]] w fun e w' => e = .returned (.tuple #[]) ∧ (∃ u1 u2, NetM w' base F1 F2 u1 u2 u1 u2 (fsL s a M) (ksL s a M)) ∧ Gr w0 w' := by
  obtain ⟨hl5, hok, hup⟩ := (Led.mks_iff A M).1 hmk
  have HL : Hid (MksAt w0 ad M) := hM
  have HD : Hid (∀ m w', m ∈ M → Calls Try.prog 29 #[.agg #[.int .i64 m.k, .string m.t, .int .i64 m.n]] w' fun e w2 => e = .returned (.tuple #[.int .i64 (Led.amF m), .int .i64 (Led.amK m)]) ∧ Gr w' w2) := by
    intro m w' hm
    obtain ⟨_, h2, _⟩ := (Led.mk_iff A m).1 (hok m hm)
    have h16 := (Act.name_pos ((Act.act_iff _ _ _).1 h2).2.1).2
    exact delta_any m.k m.n m.t w' (by omega)
  have HC : Hid (∀ (k : Nat) (h : k < M.length) w', Gr w0 w' → (∃ u1 u2, NetM w' base F1 F2 u1 u2 u1 u2 (fsL s a (M.take k)) (ksL s a (M.take k))) → Calls Try.prog 34 #[.agg #[.string M[k].key, .int .i64 M[k].k, .string M[k].t, .int .i64 M[k].n, .int .i64 M[k].st], .int .i64 (Led.amF M[k]), .int .i64 (Led.amK M[k]), .pointer (some ⟨N, 0, none⟩), .pointer (some ⟨H, 0, none⟩), .pointer (some ⟨F1, 0, none⟩), .pointer (some ⟨F2, 0, none⟩)] w' fun e w2 => e = .returned (.tuple #[]) ∧ (∃ u1 u2, NetM w2 base F1 F2 u1 u2 u1 u2 (fsL s a (M.take (k + 1))) (ksL s a (M.take (k + 1)))) ∧ Gr w0 w2) := by
    intro k h w' g ⟨u1, u2, hn⟩
    by_cases he : effB s a M[k] = true
    · obtain ⟨e1, e2, e3⟩ := (eff_iff _ _ _).1 he
      rw [(fs_yes h he).1, (fs_yes h he).2]
      have hlen := fs_len s a (M.take k)
      rw [List.length_take] at hlen
      exact net1_yes M[k] _ _ N H F1 F2 base s a u1 u2 _ _ w0 w' hN hH g hn hF1 hF2 e1 e2 e3 (by omega)
    · rw [(fs_not h he).1, (fs_not h he).2]
      exact net1_not M[k] _ _ N H F1 F2 base s a u1 u2 _ _ w0 w' hN hH g hn (fun hh => he ((eff_iff _ _ _).2 hh))
  have HS : Hid (∃ u1 u2, NetM w base F1 F2 u1 u2 u1 u2 (fsL s a (M.take 0)) (ksL s a (M.take 0))) := ⟨_, _, hf⟩
  have HG : Hid (Gr w0 w) := hg
  clear hM hmk hN hH hg hf hok hup
  go_enter Try.func33, Try.ntmps33
  go_wp2
  go_loopw [10] (fun s10 wr => ∃ k : Nat, s10 = .int .i64 k ∧ k ≤ M.length ∧ (∃ u1 u2, NetM wr base F1 F2 u1 u2 u1 u2 (fsL s a (M.take k)) (ksL s a (M.take k))) ∧ Gr w0 wr) (fun s10 _ => M.length - (intOf s10).toNat)
  case atStart => exact ⟨0, rfl, Nat.zero_le _, HS.out, HG.out⟩
  case round =>
    clear HS HG
    obtain ⟨k, rfl, hk, ha, hg⟩ := hrel
    have HAr : Hid (∃ u1 u2, NetM wr base F1 F2 u1 u2 u1 u2 (fsL s a (M.take k)) (ksL s a (M.take k))) := ha
    have HG : Hid (Gr w0 wr) := hg
    clear ha hg
    by_cases hlt : k < M.length
    · obtain ⟨b, off, rfl, hb, d0, d1, d2, d3, d4⟩ := (MksAt.at HL.out k hlt)
      have d0 := HG.out.keep d0
      have d1 := HG.out.keep d1
      have d2 := HG.out.keep d2
      have d3 := HG.out.keep d3
      have d4 := HG.out.keep d4
      have hbw : b < wr.heap.size := Nat.lt_of_lt_of_le hb HG.out.size
      have hki : (k : Int) < (M.length : Int) := by omega
      have hD := fun w' => HD.out M[k] w' (List.getElem_mem hlt)
      have hC := HC.out k hlt
      clear HC HD
      generalize Led.amF M[k] = fr at *
      generalize Led.amK M[k] = kp at *
      generalize M[k] = x at *
      have HD1 : Hid (∀ w', Calls Try.prog 29 #[.agg #[.int .i64 x.k, .string x.t, .int .i64 x.n]] w' fun e w2 => e = .returned (.tuple #[.int .i64 fr, .int .i64 kp]) ∧ Gr w' w2) := hD
      have HC1 : Hid (∀ w', Gr w0 w' → (∃ u1 u2, NetM w' base F1 F2 u1 u2 u1 u2 (fsL s a (M.take k)) (ksL s a (M.take k))) → Calls Try.prog 34 #[.agg #[.string x.key, .int .i64 x.k, .string x.t, .int .i64 x.n, .int .i64 x.st], .int .i64 fr, .int .i64 kp, .pointer (some ⟨N, 0, none⟩), .pointer (some ⟨H, 0, none⟩), .pointer (some ⟨F1, 0, none⟩), .pointer (some ⟨F2, 0, none⟩)] w' fun e w2 => e = .returned (.tuple #[]) ∧ (∃ u1 u2, NetM w2 base F1 F2 u1 u2 u1 u2 (fsL s a (M.take (k + 1))) (ksL s a (M.take (k + 1)))) ∧ Gr w0 w2) := hC
      clear hD hC
      go_wp2_with fail
      refine (HD1.out _).mono ?_
      rintro e w1 ⟨rfl, hg1⟩
      obtain ⟨b0, b1, b2, b3, b4, _, b6⟩ := (FiveAt.new wr _ _ _ _ _ _ wr.heap.size rfl).gr hg1
      have HG1 : Hid (Gr w0 w1) := HG.out.alloc.trans hg1
      have HAr1 : Hid (∃ u1 u2, NetM w1 base F1 F2 u1 u2 u1 u2 (fsL s a (M.take k)) (ksL s a (M.take k))) := by
        obtain ⟨u1, u2, hn⟩ := HAr.out
        exact ⟨u1, u2, hn.gr ((Gr.refl wr).alloc.trans hg1)⟩
      clear hg1 HG HAr d0 d1 d2 d3 d4
      go_wp2_with fail
      refine (HC1.out _ HG1.out HAr1.out).mono ?_
      rintro e w2 ⟨rfl, ha2, hg2⟩
      have HG2 : Hid (Gr w0 w2) := hg2
      have HAr2 : Hid (∃ u1 u2, NetM w2 base F1 F2 u1 u2 u1 u2 (fsL s a (M.take (k + 1))) (ksL s a (M.take (k + 1)))) := ha2
      clear ha2 hg2
      go_wp2
      go_roundw
      case rel => exact ⟨k + 1, by go_num, by omega, HAr2.out, HG2.out⟩
      case measure => simp [intOf]; omega
    · have hge : ¬ ((k : Int) < (M.length : Int)) := by omega
      obtain rfl : k = M.length := by omega
      have HE : Hid (∃ u1 u2, NetM wr base F1 F2 u1 u2 u1 u2 (fsL s a M) (ksL s a M)) := by have := HAr.out; rw [List.take_length] at this; exact this
      go_wp2
      go_end0
      exact ⟨rfl, HE.out, HG.out⟩
end Go.Proofs.Ytgidkmipecfjhaa
namespace Go.Proofs.Ytgidkmipecfjhaa
open Go.RowKit
open Led (Acc Mk)
theorem one_at (w : World) (v : Value) (t : TypeId) (g : Nat) (hg : g = w.heap.size) : (w.alloc (.cells #[v] t)).cell? ⟨g, 0, none⟩ = some v := by subst hg; simp
def netE (A : List Acc) (M : List Mk) (s : ByteArray) : Int := if Led.mayB A M = true then (if Led.hasB (Led.nm A) s = true then 0 else 70) else 2
def netF (A : List Acc) (M : List Mk) (s a : ByteArray) : Int := if netE A M s = 0 then Csh.sumE (fsL s a M) else 0
def netK (A : List Acc) (M : List Mk) (s a : ByteArray) : Int := if netE A M s = 0 then Csh.sumE (ksL s a M) else 0
theorem fs_sum {A : List Acc} {M : List Mk} (s a : ByteArray) (hm : Led.May A M) : (-500000000000000000 ≤ Csh.sumE (fsL s a M) ∧ Csh.sumE (fsL s a M) ≤ 500000000000000000) ∧ (-500000000000000000 ≤ Csh.sumE (ksL s a M) ∧ Csh.sumE (ksL s a M) ≤ 500000000000000000) := by
  have r := fs_rng s a hm.om
  have l := fs_len s a M
  have h5 := hm.lm
  have s1 := sum_within 1000000000000000 r.1
  have s2 := sum_within 1000000000000000 r.2
  omega
set_option maxHeartbeats 4000000 in
set_option maxRecDepth 100000 in
theorem net7_any (A : List Acc) (M : List Mk) (s a : ByteArray) (adA : Option Addr) (capA : Nat) (adM : Option Addr) (capM : Nat) (w : World) (h : LedAt w adA adM A M) :
    Calls Try.prog 12 #[.agg #[.slice adA A.length capA, .slice adM M.length capM], .string s, .string a] w fun e w' => e = .returned (.tuple #[.int .i64 (netF A M s a), .int .i64 (netK A M s a), .int .i64 (netE A M s)]) ∧ Gr w w' := by
  have HM : Hid (∀ w', Gr w w' → Calls Try.prog 14 #[.agg #[.slice adA A.length capA, .slice adM M.length capM]] w' fun e w2 => e = .returned (.int .i64 (mayL A M)) ∧ Gr w' w2) := fun w' g => (h.gr g).may capA capM
  have hmf : ∀ (fn : Fn) (first cap : Array Value) (w : World), (Instr.makeFunc fn first cap).run Try.prog w = .ok (.func fn first cap) w := fun _ _ _ _ => rfl
  cases hm : Led.mayB A M with
  | false =>
    rw [mayL_no hm] at HM
    have hE : netE A M s = 2 := by unfold netE; rw [hm]; rfl
    have hF : netF A M s a = 0 := by unfold netF; rw [hE]; rfl
    have hK : netK A M s a = 0 := by unfold netK; rw [hE]; rfl
    rw [hE, hF, hK]
    clear h hm hE hF hK
    go_enter Try.func12, Try.ntmps12
    go_wp2_with fail
    refine (HM.out _ ((Gr.refl _).alloc.alloc.alloc)).mono ?_
    rintro e w1 ⟨rfl, hg1⟩
    have g1 : Gr w w1 := (by repeat (first | exact Gr.refl _ | refine Gr.alloc ?_ | refine Gr.drew ?_ | refine Gr.trans ?_ (by assumption)))
    clear hg1
    go_wp2
    exact bodyPost_ret (v := .tuple #[.int .i64 0, .int .i64 0, .int .i64 2]) (by simp [results, Try.results12, go_sem, *]) rfl ⟨rfl, g1⟩
  | true =>
    rw [mayL_yes hm] at HM
    have hM := (Led.may_iff A M).1 hm
    have HF : Hid (∀ w', Gr w w' → Calls Try.prog 30 #[.slice adA A.length capA, .string s] w' fun e w2 => e = .returned (.tuple #[.int .i64 (Led.pos (Led.nm A) s : Nat), .bool (Led.hasB (Led.nm A) s)]) ∧ Gr w' w2) := fun w' g => findA_any A s adA capA w' (h.a.gr g) hM.ua (by have := hM.la; omega)
    cases hb : Led.hasB (Led.nm A) s with
    | false =>
      rw [hb] at HF
      have hE : netE A M s = 70 := by unfold netE; rw [hm, hb]; rfl
      have hF : netF A M s a = 0 := by unfold netF; rw [hE]; rfl
      have hK : netK A M s a = 0 := by unfold netK; rw [hE]; rfl
      rw [hE, hF, hK]
      generalize Led.pos (Led.nm A) s = p at *
      clear h hm hM hb hE hF hK
      go_enter Try.func12, Try.ntmps12
      go_wp2_with fail
      refine (HM.out _ ((Gr.refl _).alloc.alloc.alloc)).mono ?_
      rintro e w1 ⟨rfl, hg1⟩
      have g1 : Gr w w1 := (by repeat (first | exact Gr.refl _ | refine Gr.alloc ?_ | refine Gr.drew ?_ | refine Gr.trans ?_ (by assumption)))
      obtain ⟨b0, b1, _, _, bl⟩ := (((TwoAt.new w (.slice adA A.length capA) (.slice adM M.length capM) 25 _ rfl).gr (Gr.refl _).alloc).gr (Gr.refl _).alloc).gr hg1
      have n0 : w1.cell? ⟨w.heap.size + 1, 0, none⟩ = some (.string s) := hg1.keep ((Gr.refl _).alloc.keep (one_at (w.alloc _) (.string s) _ (w.heap.size + 1) (by simp)))
      have nl : w.heap.size + 1 < w1.heap.size := World.block_lt_of_cell? w1 _ n0
      clear hg1
      go_wp2_with fail
      refine (HF.out _ g1).mono ?_
      rintro e w2 ⟨rfl, hg2⟩
      have g2 : Gr w w2 := g1.trans hg2
      clear hg2 b0 b1 bl n0 nl
      go_wp2
      exact bodyPost_ret (v := .tuple #[.int .i64 0, .int .i64 0, .int .i64 70]) (by simp [results, Try.results12, go_sem, *]) rfl ⟨rfl, g2⟩
    | true =>
      rw [hb] at HF
      have hE : netE A M s = 0 := by unfold netE; rw [hm, hb]; rfl
      have hF : netF A M s a = Csh.sumE (fsL s a M) := by unfold netF; rw [hE]; rfl
      have hK : netK A M s a = Csh.sumE (ksL s a M) := by unfold netK; rw [hE]; rfl
      rw [hE, hF, hK]
      have hmk : Led.mksB A M = true := (Led.mks_iff A M).2 ⟨hM.lm, hM.om, hM.um⟩
      have HCH : Hid (∀ (N H F1 F2 base : Nat) (w0 w' : World), Gr w w0 → w0.cell? ⟨N, 0, none⟩ = some (.string s) → w0.cell? ⟨H, 0, none⟩ = some (.string a) → w0.heap.size ≤ F1 → w0.heap.size ≤ F2 → Gr w0 w' → NetM w' base F1 F2 (.slice none 0 0) (.slice none 0 0) (.slice none 0 0) (.slice none 0 0) [] [] →
          Calls Try.prog 33 #[.slice adM M.length capM, .func (.func 34) #[] #[.pointer (some ⟨N, 0, none⟩), .pointer (some ⟨H, 0, none⟩), .pointer (some ⟨F1, 0, none⟩), .pointer (some ⟨F2, 0, none⟩)]] w' fun e w2 => e = .returned (.tuple #[]) ∧ (∃ u1 u2, NetM w2 base F1 F2 u1 u2 u1 u2 (fsL s a M) (ksL s a M)) ∧ Gr w0 w2) :=
        fun N H F1 F2 base w0 w' g h1 h2 h3 h4 h5 h6 => changesN_any A M adM capM N H F1 F2 base s a w0 w' (h.m.gr g) hmk h1 h2 h3 h4 h5 h6
      have HTG : Hid (∀ (a1 a2 : Option Addr) (c1 c2 : Nat) (w' : World), IntsAt w' a1 (fsL s a M) → IntsAt w' a2 (ksL s a M) → Calls Try.prog 36 #[.slice a1 (fsL s a M).length c1, .slice a2 (ksL s a M).length c2] w' fun e w2 => e = .returned (.tuple #[.int .i64 (Csh.sumE (fsL s a M)), .int .i64 (Csh.sumE (ksL s a M)), .int .i64 0]) ∧ w2 = w') := fun a1 a2 c1 c2 w' h1 h2 => by
        have r := fs_rng s a hM.om
        have l := fs_len s a M
        have h5 := hM.lm
        have ss := fs_sum s a hM
        exact together_any _ _ a1 a2 c1 c2 w' h1 h2 (by omega) (by omega) (fun x hx => by have := r.1 x hx; omega) (fun x hx => by have := r.2 x hx; omega) (by omega) (by omega)
      generalize Led.pos (Led.nm A) s = p at *
      generalize Csh.sumE (fsL s a M) = r1 at *
      generalize Csh.sumE (ksL s a M) = r2 at *
      generalize fsL s a M = fs at *
      generalize ksL s a M = ks at *
      clear h hm hM hb hE hF hK hmk
      go_enter Try.func12, Try.ntmps12
      go_wp2_with fail
      refine (HM.out _ ((Gr.refl _).alloc.alloc.alloc)).mono ?_
      rintro e w1 ⟨rfl, hg1⟩
      have g1 : Gr w w1 := (by repeat (first | exact Gr.refl _ | refine Gr.alloc ?_ | refine Gr.drew ?_ | refine Gr.trans ?_ (by assumption)))
      have HB1 : Hid (TwoAt w1 w.heap.size (.slice adA A.length capA) (.slice adM M.length capM)) := (((TwoAt.new w _ _ 25 _ rfl).gr (Gr.refl _).alloc).gr (Gr.refl _).alloc).gr hg1
      obtain ⟨b0, b1, _, _, bl⟩ := HB1.out
      have n0 : w1.cell? ⟨w.heap.size + 1, 0, none⟩ = some (.string s) := hg1.keep ((Gr.refl _).alloc.keep (one_at (w.alloc _) (.string s) _ (w.heap.size + 1) (by simp)))
      have h0 : w1.cell? ⟨w.heap.size + 1 + 1, 0, none⟩ = some (.string a) := hg1.keep (one_at ((w.alloc _).alloc _) (.string a) _ (w.heap.size + 1 + 1) (by simp))
      have nl : w.heap.size + 1 < w1.heap.size := World.block_lt_of_cell? w1 _ n0
      clear hg1
      go_wp2_with fail
      refine (HF.out _ g1).mono ?_
      rintro e w2 ⟨rfl, hg2⟩
      have g2 : Gr w w2 := g1.trans hg2
      have HB2 : Hid (TwoAt w2 w.heap.size (.slice adA A.length capA) (.slice adM M.length capM)) := HB1.out.gr hg2
      have HN0 : Hid (w2.cell? ⟨w.heap.size + 1, 0, none⟩ = some (.string s)) := hg2.keep n0
      have HH0 : Hid (w2.cell? ⟨w.heap.size + 1 + 1, 0, none⟩ = some (.string a)) := hg2.keep h0
      clear hg2 b0 b1 bl n0 nl h0 HB1 g1
      obtain ⟨b0, b1, _, _, bl⟩ := HB2.out
      have HNM : Hid (NetM ((w2.alloc (.cells #[.slice none 0 0] 71)).alloc (.cells #[.slice none 0 0] 71)) (w2.heap.size + 1 + 1) w2.heap.size (w2.heap.size + 1) (.slice none 0 0) (.slice none 0 0) (.slice none 0 0) (.slice none 0 0) [] []) :=
        ⟨by simp, by simp, by simp, by simp, own_none _ _ _ _, own_none _ _ _ _, (fun g e => by cases e), by omega, by omega, by omega, by simp⟩
      go_wp2_with fail
      refine (HCH.out (w.heap.size + 1) (w.heap.size + 1 + 1) w2.heap.size (w2.heap.size + 1) (w2.heap.size + 1 + 1) w2 _ g2 HN0.out HH0.out (by omega) (by omega) (Gr.refl _).alloc.alloc HNM.out).mono ?_
      rintro e w3 ⟨rfl, ⟨u1, u2, hn3⟩, hg3⟩
      have g3 : Gr w w3 := g2.trans hg3
      obtain ⟨a1, c1, rfl, _, hi1⟩ := own_ints (l := fs) hn3.o1
      obtain ⟨a2, c2, rfl, _, hi2⟩ := own_ints (l := ks) hn3.o2
      have HT3 : Hid (Calls Try.prog 36 #[.slice a1 fs.length c1, .slice a2 ks.length c2] w3 fun e w2 => e = .returned (.tuple #[.int .i64 r1, .int .i64 r2, .int .i64 0]) ∧ w2 = w3) := HTG.out a1 a2 c1 c2 w3 hi1 hi2
      have k1 := hn3.c1
      have k2 := hn3.c2
      have kl := hn3.bs
      clear hn3 hg3 hi1 hi2 HNM HCH HTG b0 b1 bl HB2 g2
      go_wp2_with fail
      refine HT3.out.mono ?_
      rintro e w4 ⟨rfl, hw4⟩; obtain rfl := hw4.symm
      go_wp2
      exact bodyPost_ret (v := .tuple #[.int .i64 r1, .int .i64 r2, .int .i64 0]) (by simp [results, Try.results12, go_sem, *]) rfl ⟨rfl, g3⟩
end Go.Proofs.Ytgidkmipecfjhaa
