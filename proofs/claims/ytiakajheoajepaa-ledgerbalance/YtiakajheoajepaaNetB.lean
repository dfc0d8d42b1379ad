/- ledger: what is in effect on an account: one mark. -/
import Derived.Test.YtiakajheoajepaaNetA
import Derived.Test.YtiakajheoajepaaLedP
import Derived.Test.YtiakajheoajepaaLedX
import Derived.Test.YtiakajheoajepaaRegT
import Derived.Test.YtiakajheoajepaaShelf
import Derived.Maps.AppendAt
namespace Go.Proofs.Ytiakajheoajepaa
open Go.RowKit
open Led (Acc Mk)

theorem infoI : (Try.prog.info? 2).map (fun i => (i.zero, i.size, i.bytes)) = some (some (.int .i64 0), 1, 8) := by kernel_rfl
def iv (l : List Int) : List Value := l.map (fun a => .int .i64 a)
/- append at a step, and where the row lies behind it -/
theorem step_append_at {P : Program} {w : World} {ops : Array Oper} {o : Oper} {a : Act} {K : Act → World → Prop} {Q : Exit → Act → World → Prop} {E : Prop} (hgd : o.guard = none) (s x : Operand) (t : TypeId)
    (ho : o.op = .call { callee := .builtin .append, args := #[s, x], argTypes := #[t, t] })
    (base : Nat) (e : TypeId) (i : TypeInfo) (z : Value) (size bytes : Nat) (ht : P.underlying t = some (.slice e)) (hi : P.info? e = some i) (hz : i.zero = some z)
    (hsize : i.size = size) (hby : i.bytes = bytes) (hzs : z.cells.size = size) (hsz : 0 < size)
    (v : Value) (n : Nat) (xs : List Value) (hs : a.eval s = v) (hown : w.ownsRow base e size v n xs)
    (ad : Addr) (m c : Nat) (news : List Value) (hx : a.eval x = .slice (some ad) m c) (hl : news.length = m * size) (hnews : ∀ j u, news[j]? = some u → w.cell? (ad.add j) = some u) (h1 : ∀ u ∈ news, u.oneCell' = true)
    (h63 : n + m ≤ maxLen) (hbytes : (n + m) * bytes ≤ 140737488355328) (hbase : base ≤ w.heap.size)
    (h : ∀ v' w', w'.ownsRow base e size v' (n + m) (xs ++ news) → w.grownBy w' v.ownBlock → (v'.ownBlock = v.ownBlock ∨ v'.ownBlock = some w.heap.size) → K (a.put o.dst v') w') :
    if Region.wanted o (yielded ops a.tmps) = true then Oper.wp P o a w K Q else E := by
  have hw : Region.wanted o (yielded ops a.tmps) = true := by simp [Region.wanted, hgd]
  rw [if_pos hw]
  obtain ⟨v', w', hr, h2, h3, _, h5⟩ := run_append_own_at (P := P) w base t o.type e i z size bytes ht hi hz hsize hby hzs hsz v n xs hown ad m c news hl hnews h1 h63 hbytes hbase
  unfold Oper.wp execOp
  simp only [ho, resolve, invoke, builtin, Sem.run_bind, Sem.run_pure, Result.andThen_ok, List.map_toArray, List.map_cons, List.map_nil, hs, hx, hr]
  exact h v' w' h2 h3 h5
theorem own_slice {w : World} {base : Nat} {e : TypeId} {size n : Nat} {v : Value} {xs : List Value} (h : w.ownsRow base e size v n xs) : ∃ a c, v = .slice a n c := by
  obtain ⟨_, ⟨rfl, h0⟩ | ⟨g, cap, cur, rfl, _⟩⟩ := h
  · exact ⟨none, 0, by rw [h0]⟩
  · exact ⟨_, _, rfl⟩
/- two that may come up -/
theorem stepC2 {P : Program} {md : Region.Mode} {ops : Array Oper} {Q : Exit → Act → World → Prop} {s : Nat} {S : World → Prop} (i j : Nat) {oi oj : Oper} {fuel : Nat} {listed : Array Bool} {a : Act} {w : World} (hr : Region.ready md ops listed = [i, j]) (hoi : ops[i]? = some oi) (hoj : ops[j]? = some oj)
    (h1 : ∀ K' : Act → World → Prop, Shut (∀ a w, S w → wpAnyL P md ops Q s S fuel (listed.setIfInBounds i true) a w → K' a w) → if Region.wanted oi (yielded ops a.tmps) = true then Oper.wp P oi a w K' Q else K' (a.put oi.dst undef) w)
    (h2 : ∀ K' : Act → World → Prop, Shut (∀ a w, S w → wpAnyL P md ops Q s S fuel (listed.setIfInBounds j true) a w → K' a w) → if Region.wanted oj (yielded ops a.tmps) = true then Oper.wp P oj a w K' Q else K' (a.put oj.dst undef) w) :
    wpAnyL P md ops Q s S (fuel + 1) listed a w := by
  refine ⟨fun h0 => (by rw [hr] at h0; cases h0), fun k hk => ?_⟩
  rw [hr] at hk
  rcases List.mem_cons.1 hk with rfl | hk
  · exact wpOp_step hoi (fun K' hK => h1 K' (fun a w hS hW => hK a w ⟨fun _ => hS, hW⟩))
  · obtain rfl : k = j := by simpa using hk
    exact wpOp_step hoj (fun K' hK => h2 K' (fun a w hS hW => hK a w ⟨fun _ => hS, hW⟩))

/- two lists that are gathered: the boxes hold b1, b2; the rows are v1, v2 -/
structure NetM (w : World) (base F1 F2 : Nat) (b1 b2 v1 v2 : Value) (fs ks : List Int) : Prop where
  c1 : w.cell? ⟨F1, 0, none⟩ = some b1
  c2 : w.cell? ⟨F2, 0, none⟩ = some b2
  z1 : w.frozen? ⟨F1, 0, none⟩ = false
  z2 : w.frozen? ⟨F2, 0, none⟩ = false
  o1 : w.ownsRow base 2 1 v1 fs.length (iv fs)
  o2 : w.ownsRow base 2 1 v2 ks.length (iv ks)
  ap : ∀ g, v1.ownBlock = some g → v2.ownBlock ≠ some g
  l1 : F1 < base
  l2 : F2 < base
  ne : F1 ≠ F2
  bs : base ≤ w.heap.size
variable {w w' : World} {base F1 F2 : Nat} {b1 b2 v1 v2 : Value} {fs ks : List Int}
theorem NetM.gr (h : NetM w base F1 F2 b1 b2 v1 v2 fs ks) (g : Gr w w') : NetM w' base F1 F2 b1 b2 v1 v2 fs ks := by
  have h1 := h.l1; have h2 := h.l2; have h3 := h.bs
  exact ⟨g.keep h.c1, g.keep h.c2, g.keepF (by show F1 < _; omega) h.z1, g.keepF (by show F2 < _; omega) h.z2, own_gr2 h.o1 g, own_gr2 h.o2 g, h.ap, h1, h2, h.ne, Nat.le_trans h3 g.size⟩
theorem grown_frozen {row : Option Nat} (hg : w.grownBy w' row) {a : Addr} (hb : a.block < w.heap.size) (hne : some a.block ≠ row) (h : w.frozen? a = false) : w'.frozen? a = false := by
  rw [World.frozen?_of_block (hg.block _ hb hne)]; exact h
theorem NetM.app1 (h : NetM w base F1 F2 b1 b2 v1 v2 fs ks) {u : Value} {x : Int} (ho : w'.ownsRow base 2 1 u (fs.length + 1) (iv fs ++ [.int .i64 x])) (hg : w.grownBy w' v1.ownBlock) (hat : u.ownBlock = v1.ownBlock ∨ u.ownBlock = some w.heap.size) :
    NetM w' base F1 F2 b1 b2 u v2 (fs ++ [x]) ks := by
  have h1 := h.l1; have h2 := h.l2; have h3 := h.bs
  have n1 : some F1 ≠ v1.ownBlock := fun e => by have := (h.o1.lt _ e.symm).1; omega
  have n2 : some F2 ≠ v1.ownBlock := fun e => by have := (h.o1.lt _ e.symm).1; omega
  refine ⟨hg.cell h.c1 n1, hg.cell h.c2 n2, grown_frozen hg (by show F1 < _; omega) n1 h.z1, grown_frozen hg (by show F2 < _; omega) n2 h.z2, ?_, h.o2.kept hg ?_, ?_, h1, h2, h.ne, Nat.le_trans h3 hg.size⟩
  · have : iv (fs ++ [x]) = iv fs ++ [.int .i64 x] := by unfold iv; simp
    rw [this, List.length_append]; exact ho
  · cases hv : v2.ownBlock with
    | none => exact Or.inl rfl
    | some g => exact Or.inr fun e => h.ap g e.symm hv
  · intro g hu hv
    rcases hat with e | e
    · exact h.ap g (by rw [← e]; exact hu) hv
    · rw [e] at hu; cases hu
      have := (h.o2.lt _ hv).2; omega
theorem NetM.app2 (h : NetM w base F1 F2 b1 b2 v1 v2 fs ks) {u : Value} {x : Int} (ho : w'.ownsRow base 2 1 u (ks.length + 1) (iv ks ++ [.int .i64 x])) (hg : w.grownBy w' v2.ownBlock) (hat : u.ownBlock = v2.ownBlock ∨ u.ownBlock = some w.heap.size) :
    NetM w' base F1 F2 b1 b2 v1 u fs (ks ++ [x]) := by
  have h1 := h.l1; have h2 := h.l2; have h3 := h.bs
  have n1 : some F1 ≠ v2.ownBlock := fun e => by have := (h.o2.lt _ e.symm).1; omega
  have n2 : some F2 ≠ v2.ownBlock := fun e => by have := (h.o2.lt _ e.symm).1; omega
  refine ⟨hg.cell h.c1 n1, hg.cell h.c2 n2, grown_frozen hg (by show F1 < _; omega) n1 h.z1, grown_frozen hg (by show F2 < _; omega) n2 h.z2, h.o1.kept hg ?_, ?_, ?_, h1, h2, h.ne, Nat.le_trans h3 hg.size⟩
  · cases hv : v1.ownBlock with
    | none => exact Or.inl rfl
    | some g => exact Or.inr fun e => h.ap g hv e.symm
  · have : iv (ks ++ [x]) = iv ks ++ [.int .i64 x] := by unfold iv; simp
    rw [this, List.length_append]; exact ho
  · intro g hu hv
    rcases hat with e | e
    · exact h.ap g hu (by rw [← e]; exact hv)
    · rw [e] at hv; cases hv
      have := (h.o1.lt _ hu).2; omega
theorem NetM.stores (h : NetM w base F1 F2 b1 b2 v1 v2 fs ks) : NetM ((w.setCell ⟨F1, 0, none⟩ v1).setCell ⟨F2, 0, none⟩ v2) base F1 F2 v1 v2 v1 v2 fs ks := by
  have h1 := h.l1; have h2 := h.l2; have h3 := h.bs; have h4 := h.ne; have h5 := h.c1; have h6 := h.c2; have h7 := h.z1; have h8 := h.z2
  have m1 : ∀ i, i < base → v1.ownBlock ≠ some i := fun i hi e => by have := (h.o1.lt _ e).1; omega
  have m2 : ∀ i, i < base → v2.ownBlock ≠ some i := fun i hi e => by have := (h.o2.lt _ e).1; omega
  have h9 : ¬ F2 = F1 := fun e => h4 e.symm
  exact ⟨by simp [go_sem, *], by simp [go_sem, *], by simp [go_sem, *], by simp [go_sem, *], own_far (own_far h.o1 _ _ (m1 _ h1)) _ _ (m1 _ h2), own_far (own_far h.o2 _ _ (m2 _ h1)) _ _ (m2 _ h2), h.ap, h1, h2, h4, by simp; exact h3⟩
theorem NetM.grown1 (h : NetM w base F1 F2 b1 b2 v1 v2 fs ks) {w0 : World} (g : Gr w0 w) (hb : w0.heap.size ≤ base) (hg : w.grownBy w' v1.ownBlock) : Gr w0 w' := g.grown hg (fun k e => by have := (h.o1.lt _ e).1; omega)
theorem NetM.grown2 (h : NetM w base F1 F2 b1 b2 v1 v2 fs ks) {w0 : World} (g : Gr w0 w) (hb : w0.heap.size ≤ base) (hg : w.grownBy w' v2.ownBlock) : Gr w0 w' := g.grown hg (fun k e => by have := (h.o2.lt _ e).1; omega)

set_option maxHeartbeats 4000000 in
set_option maxRecDepth 100000 in
theorem net1_yes (m : Mk) (free kept : Int) (N H F1 F2 base : Nat) (s a : ByteArray) (v1 v2 : Value) (fs ks : List Int) (w0 w : World) (hN : w0.cell? ⟨N, 0, none⟩ = some (.string s)) (hH : w0.cell? ⟨H, 0, none⟩ = some (.string a)) (hg : Gr w0 w) (h : NetM w base F1 F2 v1 v2 v1 v2 fs ks) (hF1 : w0.heap.size ≤ F1) (hF2 : w0.heap.size ≤ F2)
    (ht : m.t = s) (hst : m.st ≠ 2) (hp : Lib.hasPrefix m.key.data.toList a.data.toList = true) (hn : fs.length ≤ 1000 ∧ ks.length ≤ 1000) :
    Calls Try.prog 34 #[.agg #[.string m.key, .int .i64 m.k, .string m.t, .int .i64 m.n, .int .i64 m.st], .int .i64 free, .int .i64 kept, .pointer (some ⟨N, 0, none⟩), .pointer (some ⟨H, 0, none⟩), .pointer (some ⟨F1, 0, none⟩), .pointer (some ⟨F2, 0, none⟩)] w fun e w' => e = .returned (.tuple #[]) ∧ (∃ u1 u2, NetM w' base F1 F2 u1 u2 u1 u2 (fs ++ [free]) (ks ++ [kept])) ∧ Gr w0 w' := by
  have HHP : Hid (∀ w', Calls Try.prog 35 #[.string m.key, .string a] w' fun e w2 => e = .returned (.bool true) ∧ w2 = w') := fun w' => by have := Try.strings_HasPrefix m.key a w'; rw [hp] at this; exact this
  obtain ⟨i0, hi, hz0, hz1, hz2⟩ := info_parts infoI
  have n0 := hg.keep hN
  have h0 := hg.keep hH
  have nl : N < w.heap.size := World.block_lt_of_cell? w _ n0
  have hl : H < w.heap.size := World.block_lt_of_cell? w _ h0
  have hqt : (m.t.toList == s.toList) = true := by rw [ht]; simp
  have hqs : (m.st != 2) = true := by simpa using hst
  have HNA : Hid (NetM w base F1 F2 v1 v2 v1 v2 fs ks) := h
  have HG : Hid (Gr w0 w) := hg
  have HBS : Hid (w0.heap.size ≤ base) := by show _ ≤ _; have := h.l1; omega
  have n63a : fs.length + 1 ≤ maxLen := by unfold maxLen; omega
  have n63b : ks.length + 1 ≤ maxLen := by unfold maxLen; omega
  clear ht hst hp hN hH h hg
  go_enter Try.func34, Try.ntmps34
  go_wp2_with fail
  refine (HHP.out _).mono ?_
  rintro e w1 ⟨rfl, hw1⟩; obtain rfl := hw1.symm
  go_upto_region 2 with fail
  obtain ⟨W, hW⟩ : ∃ W, W = w.alloc (.cells #[.string m.key, .int .i64 m.k, .string m.t, .int .i64 m.n, .int .i64 m.st] 64) := ⟨_, rfl⟩
  have HN0 : Hid (NetM W.drew base F1 F2 v1 v2 v1 v2 fs ks) := by show NetM _ _ _ _ _ _ _ _ _ _; rw [hW]; exact HNA.out.gr (Gr.refl _).alloc.drew
  have HG0 : Hid (Gr w0 W.drew) := by show Gr _ _; rw [hW]; exact HG.out.alloc.drew
  rw [← hW]
  clear hW HNA HG HHP n0 h0 nl hl hqt hqs
  have hk : W.drew.cell? ⟨F1, 0, none⟩ = some v1 ∧ W.drew.cell? ⟨F2, 0, none⟩ = some v2 := ⟨HN0.out.c1, HN0.out.c2⟩
  have x1 : F1 < base := HN0.out.l1
  have x2 : F2 < base := HN0.out.l2
  refine beginL 8 (fun w' => w'.cell? ⟨F1, 0, none⟩ = some v1 ∧ w'.cell? ⟨F2, 0, none⟩ = some v2) (by kernel_rfl) (by exact hk) (fun hHeld => ?_)
  refine takeS 0 26 (v := ?_) rfl rfl (by decide) (by kernel_rfl) (by kernel_rfl) (by kernel_rfl) (by kernel_rfl) (by kernel_rfl) (fun _ _ _ h => h) (by rfl) ?_ hHeld ?_
  rotate_left
  · (intro w; (try intro hSw); (try dsimp only at hSw); go_simp; try with_reducible rfl)
  simp only [Act.put, List.setIfInBounds_toArray, List.set_cons_zero, List.set_cons_succ]
  refine takeW 1 27 (v := ?_) rfl rfl (by decide) (by kernel_rfl) (by kernel_rfl) (by kernel_rfl) (fun _ _ _ h => h) (by rfl) ?_ (fun _ => hHeld) ?_
  rotate_left
  · (intro w; (try intro hSw); (try dsimp only at hSw); go_simp; try with_reducible rfl)
  simp only [Act.put, List.setIfInBounds_toArray, List.set_cons_zero, List.set_cons_succ]
  refine takeT 4 30 7 (v := ?_) rfl rfl (by decide) (by decide) (by kernel_rfl) (by kernel_rfl) (by kernel_rfl) (by kernel_rfl) (by kernel_rfl) (by kernel_rfl) (by kernel_rfl) (fun _ _ _ h => h) (by rfl) ?_ hHeld ?_
  rotate_left
  · (intro w; (try intro hSw); (try dsimp only at hSw); go_simp; try with_reducible rfl)
  simp only [Act.put, List.setIfInBounds_toArray, List.set_cons_zero, List.set_cons_succ]
  refine takeW 5 31 (v := ?_) rfl rfl (by decide) (by kernel_rfl) (by kernel_rfl) (by kernel_rfl) (fun _ _ _ h => h) (by rfl) ?_ (fun _ => hHeld) ?_
  rotate_left
  · (intro w; (try intro hSw); (try dsimp only at hSw); go_simp; try with_reducible rfl)
  simp only [Act.put, List.setIfInBounds_toArray, List.set_cons_zero, List.set_cons_succ]
  clear hk hHeld
  obtain ⟨V, hV⟩ : ∃ V, V = W.drew := ⟨_, rfl⟩
  rw [← hV] at HN0 HG0 ⊢
  clear hV
  refine stepC2 2 6 (by kernel_rfl) rfl rfl (fun K hK => ?_) (fun K hK => ?_)
  · skip
    go_simp
    have HN1 : Hid (NetM (V.alloc (.cells #[.int .i64 free] 2)) base F1 F2 v1 v2 v1 v2 fs ks) := HN0.out.gr (Gr.refl _).alloc
    have HG1 : Hid (Gr w0 (V.alloc (.cells #[.int .i64 free] 2))) := HG0.out.alloc
    have HC1 : Hid (∀ j u, [Value.int .i64 free][j]? = some u → (V.alloc (.cells #[.int .i64 free] 2)).cell? ((⟨V.heap.size, 0, none⟩ : Addr).add j) = some u) := cell_one_new _ _ _
    have HQ1 : Hid (v1.ownBlock ≠ some V.heap.size ∧ v2.ownBlock ≠ some V.heap.size) := ⟨fun e => by have := (HN0.out.o1.lt _ e).2; omega, fun e => by have := (HN0.out.o2.lt _ e).2; omega⟩
    obtain ⟨W1, hW1⟩ : ∃ x, x = V.alloc (.cells #[.int .i64 free] 2) := ⟨_, rfl⟩
    rw [← hW1] at HN1 HG1 HC1 ⊢
    clear hW1
    refine hK.out _ _ ⟨HN1.out.c1, HN1.out.c2⟩ ?_
    clear hK K
    refine stepC2 3 6 (by kernel_rfl) rfl rfl (fun K hK => ?_) (fun K hK => ?_)
    · skip
      refine step_append_at (by rfl) _ _ 71 (by rfl) base 2 i0 (.int .i64 0) 1 8 Try.underlying71 hi hz0 hz1 hz2 rfl (by decide) v1 fs.length (iv fs) (by rfl) HN1.out.o1 ⟨V.heap.size, 0, none⟩ 1 1 [.int .i64 free] (by rfl) rfl HC1.out (by intro u hu; simp at hu; subst hu; rfl) n63a (by omega) HN1.out.bs ?_
      intro u1 W2 hown hgrow hat
      have HN2 : Hid (NetM W2 base F1 F2 v1 v2 u1 v2 (fs ++ [free]) ks) := HN1.out.app1 hown hgrow hat
      have HG2 : Hid (Gr w0 W2) := HN1.out.grown1 HG1.out HBS.out hgrow
      clear hown hgrow hat
      refine hK.out _ _ ⟨HN2.out.c1, HN2.out.c2⟩ ?_
      clear hK K
      refine stepC 6 (by kernel_rfl) rfl (fun K hK => ?_)
      go_simp
      have HN3 : Hid (NetM (W2.alloc (.cells #[.int .i64 kept] 2)) base F1 F2 v1 v2 u1 v2 (fs ++ [free]) ks) := HN2.out.gr (Gr.refl _).alloc
      have HG3 : Hid (Gr w0 (W2.alloc (.cells #[.int .i64 kept] 2))) := HG2.out.alloc
      have HC2 : Hid (∀ j u, [Value.int .i64 kept][j]? = some u → (W2.alloc (.cells #[.int .i64 kept] 2)).cell? ((⟨W2.heap.size, 0, none⟩ : Addr).add j) = some u) := cell_one_new _ _ _
      have HQ2 : Hid (u1.ownBlock ≠ some W2.heap.size ∧ v2.ownBlock ≠ some W2.heap.size) := ⟨fun e => by have := (HN2.out.o1.lt _ e).2; omega, fun e => by have := (HN2.out.o2.lt _ e).2; omega⟩
      obtain ⟨W3, hW3⟩ : ∃ x, x = W2.alloc (.cells #[.int .i64 kept] 2) := ⟨_, rfl⟩
      rw [← hW3] at HN3 HG3 HC2 ⊢
      clear hW3
      refine hK.out _ _ ⟨HN3.out.c1, HN3.out.c2⟩ (fun _ => ?_)
      clear hK K
      refine stepC 7 (by kernel_rfl) rfl (fun K hK => ?_)
      refine step_append_at (by rfl) _ _ 71 (by rfl) base 2 i0 (.int .i64 0) 1 8 Try.underlying71 hi hz0 hz1 hz2 rfl (by decide) v2 ks.length (iv ks) (by rfl) HN3.out.o2 ⟨W2.heap.size, 0, none⟩ 1 1 [.int .i64 kept] (by rfl) rfl HC2.out (by intro u hu; simp at hu; subst hu; rfl) n63b (by omega) HN3.out.bs ?_
      intro u2 W4 hown hgrow hat
      have HN4 : Hid (NetM W4 base F1 F2 v1 v2 u1 u2 (fs ++ [free]) (ks ++ [kept])) := HN3.out.app2 hown hgrow hat
      have HG4 : Hid (Gr w0 W4) := HN3.out.grown2 HG3.out HBS.out hgrow
      clear hown hgrow hat
      refine hK.out _ _ ⟨HN4.out.c1, HN4.out.c2⟩ (fun _ => ?_)
      clear hK K
      obtain ⟨p1, q1, rfl⟩ := own_slice HN4.out.o1
      obtain ⟨p2, q2, rfl⟩ := own_slice HN4.out.o2
      refine stepS (by kernel_rfl) rfl (by kernel_rfl) (fun K hK => ?_)
      have c1 := HN4.out.c1
      have c2 := HN4.out.c2
      have z1 := HN4.out.z1
      have z2 := HN4.out.z2
      have bz := HN4.out.bs
      have hne := HN4.out.ne
      have hne2 : ¬ F2 = F1 := fun e => hne e.symm
      go_simp
      refine hK.out _ _ ?_
      clear hK K
      refine stepL 9 (by kernel_rfl) rfl (fun K hK => ?_)
      go_simp
      refine hK.out _ _ (fun h => listed_done (by kernel_rfl) h) ?_
      clear hK K
      refine doneL (by kernel_rfl) ?_ _
      go_wp2
      go_end0
      have hst := HN4.out.stores
      simp only [List.length_append, List.length_cons, List.length_nil, Nat.zero_add] at hst
      exact ⟨rfl, ⟨_, _, hst⟩, (HG4.out.set _ hF1 _).set _ hF2 _⟩
    · skip
      go_simp
      have HN2 : Hid (NetM (W1.alloc (.cells #[.int .i64 kept] 2)) base F1 F2 v1 v2 v1 v2 fs ks) := HN1.out.gr (Gr.refl _).alloc
      have HG2 : Hid (Gr w0 (W1.alloc (.cells #[.int .i64 kept] 2))) := HG1.out.alloc
      have HC2 : Hid (∀ j u, [Value.int .i64 kept][j]? = some u → (W1.alloc (.cells #[.int .i64 kept] 2)).cell? ((⟨W1.heap.size, 0, none⟩ : Addr).add j) = some u) := cell_one_new _ _ _
      have HQ2 : Hid (v1.ownBlock ≠ some W1.heap.size ∧ v2.ownBlock ≠ some W1.heap.size) := ⟨fun e => by have := (HN1.out.o1.lt _ e).2; omega, fun e => by have := (HN1.out.o2.lt _ e).2; omega⟩
      have HC1b : Hid (∀ j u, [Value.int .i64 free][j]? = some u → (W1.alloc (.cells #[.int .i64 kept] 2)).cell? ((⟨V.heap.size, 0, none⟩ : Addr).add j) = some u) := fun j u hj => (Gr.refl _).alloc.keep (HC1.out j u hj)
      clear HC1
      have HC1 := HC1b
      clear HC1b
      obtain ⟨W2, hW2⟩ : ∃ x, x = W1.alloc (.cells #[.int .i64 kept] 2) := ⟨_, rfl⟩
      rw [← hW2] at HN2 HG2 HC2 HC1 ⊢
      clear hW2
      refine hK.out _ _ ⟨HN2.out.c1, HN2.out.c2⟩ ?_
      clear hK K
      refine stepC 3 (by kernel_rfl) rfl (fun K hK => ?_)
      refine step_append_at (by rfl) _ _ 71 (by rfl) base 2 i0 (.int .i64 0) 1 8 Try.underlying71 hi hz0 hz1 hz2 rfl (by decide) v1 fs.length (iv fs) (by rfl) HN2.out.o1 ⟨V.heap.size, 0, none⟩ 1 1 [.int .i64 free] (by rfl) rfl HC1.out (by intro u hu; simp at hu; subst hu; rfl) n63a (by omega) HN2.out.bs ?_
      intro u1 W3 hown hgrow hat
      have HN3 : Hid (NetM W3 base F1 F2 v1 v2 u1 v2 (fs ++ [free]) ks) := HN2.out.app1 hown hgrow hat
      have HG3 : Hid (Gr w0 W3) := HN2.out.grown1 HG2.out HBS.out hgrow
      have HC2 : Hid (∀ j u, [Value.int .i64 kept][j]? = some u → W3.cell? ((⟨W1.heap.size, 0, none⟩ : Addr).add j) = some u) := fun j u hj => hgrow.cell (HC2.out j u hj) (fun e => HQ2.out.1 (by rw [Addr.add_lit] at e; exact e.symm))
      clear hown hgrow hat
      refine hK.out _ _ ⟨HN3.out.c1, HN3.out.c2⟩ (fun _ => ?_)
      clear hK K
      refine stepC 7 (by kernel_rfl) rfl (fun K hK => ?_)
      refine step_append_at (by rfl) _ _ 71 (by rfl) base 2 i0 (.int .i64 0) 1 8 Try.underlying71 hi hz0 hz1 hz2 rfl (by decide) v2 ks.length (iv ks) (by rfl) HN3.out.o2 ⟨W1.heap.size, 0, none⟩ 1 1 [.int .i64 kept] (by rfl) rfl HC2.out (by intro u hu; simp at hu; subst hu; rfl) n63b (by omega) HN3.out.bs ?_
      intro u2 W4 hown hgrow hat
      have HN4 : Hid (NetM W4 base F1 F2 v1 v2 u1 u2 (fs ++ [free]) (ks ++ [kept])) := HN3.out.app2 hown hgrow hat
      have HG4 : Hid (Gr w0 W4) := HN3.out.grown2 HG3.out HBS.out hgrow
      clear hown hgrow hat
      refine hK.out _ _ ⟨HN4.out.c1, HN4.out.c2⟩ (fun _ => ?_)
      clear hK K
      obtain ⟨p1, q1, rfl⟩ := own_slice HN4.out.o1
      obtain ⟨p2, q2, rfl⟩ := own_slice HN4.out.o2
      refine stepS (by kernel_rfl) rfl (by kernel_rfl) (fun K hK => ?_)
      have c1 := HN4.out.c1
      have c2 := HN4.out.c2
      have z1 := HN4.out.z1
      have z2 := HN4.out.z2
      have bz := HN4.out.bs
      have hne := HN4.out.ne
      have hne2 : ¬ F2 = F1 := fun e => hne e.symm
      go_simp
      refine hK.out _ _ ?_
      clear hK K
      refine stepL 9 (by kernel_rfl) rfl (fun K hK => ?_)
      go_simp
      refine hK.out _ _ (fun h => listed_done (by kernel_rfl) h) ?_
      clear hK K
      refine doneL (by kernel_rfl) ?_ _
      go_wp2
      go_end0
      have hst := HN4.out.stores
      simp only [List.length_append, List.length_cons, List.length_nil, Nat.zero_add] at hst
      exact ⟨rfl, ⟨_, _, hst⟩, (HG4.out.set _ hF1 _).set _ hF2 _⟩
  · skip
    go_simp
    have HN1 : Hid (NetM (V.alloc (.cells #[.int .i64 kept] 2)) base F1 F2 v1 v2 v1 v2 fs ks) := HN0.out.gr (Gr.refl _).alloc
    have HG1 : Hid (Gr w0 (V.alloc (.cells #[.int .i64 kept] 2))) := HG0.out.alloc
    have HC2 : Hid (∀ j u, [Value.int .i64 kept][j]? = some u → (V.alloc (.cells #[.int .i64 kept] 2)).cell? ((⟨V.heap.size, 0, none⟩ : Addr).add j) = some u) := cell_one_new _ _ _
    have HQ2 : Hid (v1.ownBlock ≠ some V.heap.size ∧ v2.ownBlock ≠ some V.heap.size) := ⟨fun e => by have := (HN0.out.o1.lt _ e).2; omega, fun e => by have := (HN0.out.o2.lt _ e).2; omega⟩
    obtain ⟨W1, hW1⟩ : ∃ x, x = V.alloc (.cells #[.int .i64 kept] 2) := ⟨_, rfl⟩
    rw [← hW1] at HN1 HG1 HC2 ⊢
    clear hW1
    refine hK.out _ _ ⟨HN1.out.c1, HN1.out.c2⟩ ?_
    clear hK K
    refine stepC 2 (by kernel_rfl) rfl (fun K hK => ?_)
    go_simp
    have HN2 : Hid (NetM (W1.alloc (.cells #[.int .i64 free] 2)) base F1 F2 v1 v2 v1 v2 fs ks) := HN1.out.gr (Gr.refl _).alloc
    have HG2 : Hid (Gr w0 (W1.alloc (.cells #[.int .i64 free] 2))) := HG1.out.alloc
    have HC1 : Hid (∀ j u, [Value.int .i64 free][j]? = some u → (W1.alloc (.cells #[.int .i64 free] 2)).cell? ((⟨W1.heap.size, 0, none⟩ : Addr).add j) = some u) := cell_one_new _ _ _
    have HQ1 : Hid (v1.ownBlock ≠ some W1.heap.size ∧ v2.ownBlock ≠ some W1.heap.size) := ⟨fun e => by have := (HN1.out.o1.lt _ e).2; omega, fun e => by have := (HN1.out.o2.lt _ e).2; omega⟩
    have HC2b : Hid (∀ j u, [Value.int .i64 kept][j]? = some u → (W1.alloc (.cells #[.int .i64 free] 2)).cell? ((⟨V.heap.size, 0, none⟩ : Addr).add j) = some u) := fun j u hj => (Gr.refl _).alloc.keep (HC2.out j u hj)
    clear HC2
    have HC2 := HC2b
    clear HC2b
    obtain ⟨W2, hW2⟩ : ∃ x, x = W1.alloc (.cells #[.int .i64 free] 2) := ⟨_, rfl⟩
    rw [← hW2] at HN2 HG2 HC1 HC2 ⊢
    clear hW2
    refine hK.out _ _ ⟨HN2.out.c1, HN2.out.c2⟩ (fun _ => ?_)
    clear hK K
    refine stepC 3 (by kernel_rfl) rfl (fun K hK => ?_)
    refine step_append_at (by rfl) _ _ 71 (by rfl) base 2 i0 (.int .i64 0) 1 8 Try.underlying71 hi hz0 hz1 hz2 rfl (by decide) v1 fs.length (iv fs) (by rfl) HN2.out.o1 ⟨W1.heap.size, 0, none⟩ 1 1 [.int .i64 free] (by rfl) rfl HC1.out (by intro u hu; simp at hu; subst hu; rfl) n63a (by omega) HN2.out.bs ?_
    intro u1 W3 hown hgrow hat
    have HN3 : Hid (NetM W3 base F1 F2 v1 v2 u1 v2 (fs ++ [free]) ks) := HN2.out.app1 hown hgrow hat
    have HG3 : Hid (Gr w0 W3) := HN2.out.grown1 HG2.out HBS.out hgrow
    have HC2 : Hid (∀ j u, [Value.int .i64 kept][j]? = some u → W3.cell? ((⟨V.heap.size, 0, none⟩ : Addr).add j) = some u) := fun j u hj => hgrow.cell (HC2.out j u hj) (fun e => HQ2.out.1 (by rw [Addr.add_lit] at e; exact e.symm))
    clear hown hgrow hat
    refine hK.out _ _ ⟨HN3.out.c1, HN3.out.c2⟩ (fun _ => ?_)
    clear hK K
    refine stepC 7 (by kernel_rfl) rfl (fun K hK => ?_)
    refine step_append_at (by rfl) _ _ 71 (by rfl) base 2 i0 (.int .i64 0) 1 8 Try.underlying71 hi hz0 hz1 hz2 rfl (by decide) v2 ks.length (iv ks) (by rfl) HN3.out.o2 ⟨V.heap.size, 0, none⟩ 1 1 [.int .i64 kept] (by rfl) rfl HC2.out (by intro u hu; simp at hu; subst hu; rfl) n63b (by omega) HN3.out.bs ?_
    intro u2 W4 hown hgrow hat
    have HN4 : Hid (NetM W4 base F1 F2 v1 v2 u1 u2 (fs ++ [free]) (ks ++ [kept])) := HN3.out.app2 hown hgrow hat
    have HG4 : Hid (Gr w0 W4) := HN3.out.grown2 HG3.out HBS.out hgrow
    clear hown hgrow hat
    refine hK.out _ _ ⟨HN4.out.c1, HN4.out.c2⟩ (fun _ => ?_)
    clear hK K
    obtain ⟨p1, q1, rfl⟩ := own_slice HN4.out.o1
    obtain ⟨p2, q2, rfl⟩ := own_slice HN4.out.o2
    refine stepS (by kernel_rfl) rfl (by kernel_rfl) (fun K hK => ?_)
    have c1 := HN4.out.c1
    have c2 := HN4.out.c2
    have z1 := HN4.out.z1
    have z2 := HN4.out.z2
    have bz := HN4.out.bs
    have hne := HN4.out.ne
    have hne2 : ¬ F2 = F1 := fun e => hne e.symm
    go_simp
    refine hK.out _ _ ?_
    clear hK K
    refine stepL 9 (by kernel_rfl) rfl (fun K hK => ?_)
    go_simp
    refine hK.out _ _ (fun h => listed_done (by kernel_rfl) h) ?_
    clear hK K
    refine doneL (by kernel_rfl) ?_ _
    go_wp2
    go_end0
    have hst := HN4.out.stores
    simp only [List.length_append, List.length_cons, List.length_nil, Nat.zero_add] at hst
    exact ⟨rfl, ⟨_, _, hst⟩, (HG4.out.set _ hF1 _).set _ hF2 _⟩

/- a mark that is not gathered -/
set_option maxHeartbeats 2000000 in
set_option maxRecDepth 100000 in
theorem net1_not (m : Mk) (free kept : Int) (N H F1 F2 base : Nat) (s a : ByteArray) (v1 v2 : Value) (fs ks : List Int) (w0 w : World) (hN : w0.cell? ⟨N, 0, none⟩ = some (.string s)) (hH : w0.cell? ⟨H, 0, none⟩ = some (.string a)) (hg : Gr w0 w) (h : NetM w base F1 F2 v1 v2 v1 v2 fs ks)
    (hno : ¬ (m.t = s ∧ m.st ≠ 2 ∧ Lib.hasPrefix m.key.data.toList a.data.toList = true)) :
    Calls Try.prog 34 #[.agg #[.string m.key, .int .i64 m.k, .string m.t, .int .i64 m.n, .int .i64 m.st], .int .i64 free, .int .i64 kept, .pointer (some ⟨N, 0, none⟩), .pointer (some ⟨H, 0, none⟩), .pointer (some ⟨F1, 0, none⟩), .pointer (some ⟨F2, 0, none⟩)] w fun e w' => e = .returned (.tuple #[]) ∧ (∃ u1 u2, NetM w' base F1 F2 u1 u2 u1 u2 fs ks) ∧ Gr w0 w' := by
  have HHP : Hid (∀ w', Calls Try.prog 35 #[.string m.key, .string a] w' fun e w2 => e = .returned (.bool (Lib.hasPrefix m.key.data.toList a.data.toList)) ∧ w2 = w') := fun w' => Try.strings_HasPrefix m.key a w'
  have n0 := hg.keep hN
  have h0 := hg.keep hH
  have nl : N < w.heap.size := World.block_lt_of_cell? w _ n0
  have hl : H < w.heap.size := World.block_lt_of_cell? w _ h0
  have HNA : Hid (NetM w base F1 F2 v1 v2 v1 v2 fs ks) := h
  have HG : Hid (Gr w0 w) := hg
  clear hN hH h hg
  by_cases ht : m.t = s
  · have hqt : (m.t.toList == s.toList) = true := by rw [ht]; simp
    by_cases hst : m.st = 2
    · have hqs : (m.st != 2) = false := by simpa using hst
      clear hno ht hst
      go_enter Try.func34, Try.ntmps34
      go_wp2
      go_end0
      exact ⟨rfl, ⟨_, _, HNA.out.gr (Gr.refl _).alloc⟩, HG.out.alloc⟩
    · have hqs : (m.st != 2) = true := by simpa using hst
      have hpf : Lib.hasPrefix m.key.data.toList a.data.toList = false := by
        cases hb : Lib.hasPrefix m.key.data.toList a.data.toList with
        | false => rfl
        | true => exact absurd ⟨ht, hst, hb⟩ hno
      rw [hpf] at HHP
      clear hno ht hst hpf
      go_enter Try.func34, Try.ntmps34
      go_wp2_with fail
      refine (HHP.out _).mono ?_
      rintro e w1 ⟨rfl, hw1⟩; obtain rfl := hw1.symm
      go_wp2
      go_end0
      exact ⟨rfl, ⟨_, _, HNA.out.gr (Gr.refl _).alloc⟩, HG.out.alloc⟩
  · have hqt := neB ht
    clear hno ht
    go_enter Try.func34, Try.ntmps34
    go_wp2
    go_end0
    exact ⟨rfl, ⟨_, _, HNA.out.gr (Gr.refl _).alloc⟩, HG.out.alloc⟩
end Go.Proofs.Ytiakajheoajepaa
