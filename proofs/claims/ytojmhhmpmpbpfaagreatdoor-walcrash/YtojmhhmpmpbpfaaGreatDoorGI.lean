/- Parts of these proofs, laid together. -/
import Derived.Test.YtojmhhmpmpbpfaaGreatDoorGB
import Derived.Test.YtojmhhmpmpbpfaaGreatDoorGE
import Derived.Sort.KeysCollected
import Derived.Maps.OwnSet
import Derived.Maps.RangeWalk
import Derived.Lib.SlKeysI
namespace Go.Proofs.YtojmhhmpmpbpfaaGreatDoor
open Go.RowKit Go.Maps
open Dk (Fl Fo St Ok Up zf ins del put emp used fst cutF one fallA kf)

theorem intLaw : Keyed Tryz.prog 3 := int_keyed Tryz.underlying3
abbrev kL (n : Int) : Lit := .int .i64 n
theorem key_any {n : Int} (h0 : -9223372036854775808 ≤ n) (h1 : n ≤ 9223372036854775807) : keyOf Tryz.prog 3 (.int .i64 n) = some (kL n) := keyOf_int_mk Tryz.underlying3 (WalkArith.wf_i64 (by omega))
/- a file as a value, as a datum -/
abbrev flV (f : Fl) : Value := .agg #[.int .i64 f.n, .string f.d, .int .i64 f.y]
def flD (f : Fl) : DataW Unit := .agg [.lit (.int .i64 f.n), .lit (.string f.d.data.toList), .lit (.int .i64 f.y)]
def flE : Value → Option (DataW Unit × List MemPlace)
  | .agg cs => match cs.toList with
    | [.int .i64 n, .string d, .int .i64 y] => some (flD ⟨n, d, y⟩, [])
    | _ => none
  | _ => none
theorem flE_mk (f : Fl) : flE (flV f) = some (flD f, []) := rfl
theorem flE_inv {v : Value} {z : DataW Unit × List MemPlace} (h : flE v = some z) : ∃ f, v = flV f ∧ z = (flD f, []) := by
  unfold flE at h
  split at h
  · rename_i cs
    split at h
    · rename_i n d y e
      cases h
      refine ⟨⟨n, d, y⟩, ?_, rfl⟩
      unfold flV
      congr 1
      rw [← Array.toArray_toList (xs := cs), e]
    · cases h
  · cases h
theorem flD_inj {f g : Fl} (h : flD f = flD g) : f = g := by
  unfold flD at h
  injection h with h
  simp only [List.cons.injEq, DataW.lit.injEq, Lit.int.injEq, Lit.string.injEq, true_and, and_true] at h
  obtain ⟨h1, h2, h3⟩ := h
  refine Dk.Fl.ext' h1 ?_ h3
  cases hf : f.d; cases hg : g.d
  rw [hf, hg] at h2
  congr 1
  exact Array.toList_inj.1 h2
theorem zeroFl (w : World) : (zeroValue 24).run Tryz.prog w = .ok (flV (zf 0)) w := by kernel_rfl
/- the map reads as the files -/
structure Rep (D : DataW Unit) (L : List Fl) : Prop where
  has : ∀ k, Maps.has D (kL k) = Dk.has L k
  at_ : ∀ x ∈ L, ∀ z, D.atKey (kL x.n) z = flD x
  size : Maps.size D = L.length
theorem Rep.nil : Rep (.map []) [] := ⟨fun k => rfl, by simp, rfl⟩
theorem isKeyLit (k : Int) : WideAt.IsKeyLit (kL k) := trivial
theorem kL_ne {a b : Int} (h : a ≠ b) : kL a ≠ kL b := fun e => h (by injection e)
theorem Rep.ins {D : DataW Unit} {L : List Fl} (h : Rep D L) (hm : Tidy D) (hu : Up L) (f : Fl) : Rep (D.put (kL f.n) (flD f)) (ins f L) := by
  refine ⟨fun k => ?_, fun x hx z => ?_, ?_⟩
  · rw [Dk.has_ins]
    by_cases e : f.n = k
    · subst e
      rw [has_put_same hm.isMap (isKeyLit _)]
      simp
    · rw [has_put_other (kL_ne (fun e' => e e'.symm)), h.has]
      simp [e]
  · rcases Dk.mem_ins hx with rfl | hx'
    · rw [atKey_put_same hm.isMap (isKeyLit _)]
    · by_cases e : x.n = f.n
      · have : x = f := hu.ins.inj hx (Dk.self_ins f L) e
        subst this
        rw [atKey_put_same hm.isMap (isKeyLit _)]
      · rw [atKey_put_other (kL_ne e)]
        exact h.at_ x hx' z
  · rw [size_put hm, h.has, h.size, Dk.ins_len _ _ hu]
theorem Rep.del {D : DataW Unit} {L : List Fl} (h : Rep D L) (hm : Tidy D) (hu : Up L) {n : Int} (hn : Dk.has L n = true) : Rep (D.del (kL n)) (Dk.del L n) := by
  refine ⟨fun k => ?_, fun x hx z => ?_, ?_⟩
  · rw [Dk.has_del]
    by_cases e : k = n
    · subst e
      rw [has_del_same]; simp
    · rw [has_del_other (kL_ne e), h.has]
      simp [e]
  · obtain ⟨hx1, hx2⟩ := List.mem_filter.1 hx
    rw [atKey_del_other (kL_ne (by simpa using hx2))]
    exact h.at_ x hx1 z
  · have h1 := size_del (k := kL n) hm
    rw [h.has, hn, h.size] at h1
    obtain ⟨h2, h3⟩ := Dk.get_mem hn
    obtain ⟨A, B, e⟩ := List.append_of_mem h2
    have h4 : (Dk.del L n).length + 1 = L.length := by
      rw [e] at hu ⊢
      rw [Dk.del_mid hu h3.symm]
      simp; omega
    simp at h1
    omega
def FilesAt (w : World) (m : Nat) (L : List Fl) : Prop := ∃ D, w.ownsMap Tryz.prog 3 flE m L.length D ∧ Rep D L
theorem FilesAt.lt {w : World} {m : Nat} {L : List Fl} (h : FilesAt w m L) : m < w.heap.size := by
  obtain ⟨D, h, _⟩ := h
  exact h.lt
theorem FilesAt.keep {w w' : World} {m : Nat} {L : List Fl} (h : FilesAt w m L) (e : w'.heap[m]? = w.heap[m]?) : FilesAt w' m L := by
  obtain ⟨D, ⟨es, cl, h1, h2⟩, hr⟩ := h
  exact ⟨D, ⟨es, cl, e.trans h1, h2⟩, hr⟩
theorem own_exact {w : World} {P : Program} {k : TypeId} {R : Value → Option (DataW Unit × List MemPlace)} {b n : Nat} {D : DataW Unit} (h : w.ownsMap P k R b n D) : w.ownsMap P k R b (Maps.size D) D := by
  obtain ⟨es, cl, h1, h2, h3, rfl⟩ := h
  exact ⟨es, cl, h1, h2, by simp [Maps.size, length_sorted], rfl⟩
set_option maxRecDepth 100000 in
theorem FilesAt.look {w : World} {m : Nat} {L : List Fl} (h : FilesAt w m L) {k : Int} (h0 : -9223372036854775808 ≤ k) (h1 : k ≤ 9223372036854775807) :
    (Instr.lookup 61 (.map (some m)) (.int .i64 k) true).run Tryz.prog w = .ok (.tuple #[flV (Dk.get L k), .bool (Dk.has L k)]) w ∧ (Instr.lookup 61 (.map (some m)) (.int .i64 k) false).run Tryz.prog w = .ok (flV (Dk.get L k)) w := by
  obtain ⟨D, h, r⟩ := h
  have hat : D.atKey (kL k) (flD (zf 0)) = flD (Dk.get L k) := by
    cases hh : Dk.has L k with
    | false => rw [atKey_of_not_has (by rw [r.has, hh]), Dk.get_not hh]
    | true =>
      obtain ⟨g1, g2⟩ := Dk.get_mem hh
      have := r.at_ _ g1 (flD (zf 0))
      rw [g2] at this
      exact this
  constructor
  · obtain ⟨v, ps, h1, h2⟩ := h.look_ok intLaw Tryz.underlying61 (zeroFl w) (flE_mk (zf 0)) (key_any h0 h1)
    obtain ⟨c, rfl, hc⟩ := flE_inv h2
    rw [hat] at hc
    injection hc with hc
    obtain rfl := flD_inj hc
    rw [r.has] at h1
    exact h1
  · obtain ⟨v, ps, h1, h2⟩ := h.lookup intLaw Tryz.underlying61 (zeroFl w) (flE_mk (zf 0)) (key_any h0 h1)
    obtain ⟨c, rfl, hc⟩ := flE_inv h2
    rw [hat] at hc
    injection hc with hc
    obtain rfl := flD_inj hc
    exact h1
theorem FilesAt.len {w : World} {m : Nat} {L : List Fl} (h : FilesAt w m L) (ty : TypeId) : (Builtin.len_ #[61] ty #[.map (some m)]).run Tryz.prog w = .ok (.int .i64 (L.length : Int)) w := by
  obtain ⟨D, h, r⟩ := h
  rw [h.len Tryz.underlying61 ty, r.size]
theorem FilesAt.put {w : World} {m : Nat} {L : List Fl} (h : FilesAt w m L) (hu : Up L) (hl : L.length < 1000) {f : Fl} (h0 : -9223372036854775808 ≤ f.n) (h1 : f.n ≤ 9223372036854775807) :
    ∃ w', (Instr.mapUpdate 61 (.map (some m)) (.int .i64 f.n) (flV f)).run Tryz.prog w = .ok () w' ∧ FilesAt w' m (ins f L) ∧ w.grownBy w' (some m) ∧ w'.heap.size = w.heap.size := by
  obtain ⟨D, h, r⟩ := h
  obtain ⟨w', h1, h2, h3⟩ := h.store intLaw Tryz.underlying61 (by unfold maxLen; omega) (key_any h0 h1) (flE_mk f)
  refine ⟨w', h1, ⟨_, ?_, r.ins (h.tidy intLaw) hu f⟩, h3.grown, ?_⟩
  · have e := own_exact h2
    rw [(r.ins (h.tidy intLaw) hu f).size] at e
    exact e
  · obtain ⟨_, _, _, _, _, rfl⟩ := h3
    simp [ChangeMaps.setBlock]
theorem FilesAt.drop {w : World} {m : Nat} {L : List Fl} (h : FilesAt w m L) (hu : Up L) {n : Int} (hn : Dk.has L n = true) (h0 : -9223372036854775808 ≤ n) (h1 : n ≤ 9223372036854775807) (ty : TypeId) :
    ∃ w', (Builtin.delete_ #[61, 3] ty #[.map (some m), .int .i64 n]).run Tryz.prog w = .ok (.tuple #[]) w' ∧ FilesAt w' m (del L n) ∧ w.grownBy w' (some m) ∧ w'.heap.size = w.heap.size := by
  obtain ⟨D, h, r⟩ := h
  obtain ⟨w', h1, h2, h3⟩ := h.drop intLaw Tryz.underlying61 (key_any h0 h1) ty
  refine ⟨w', h1, ⟨_, ?_, r.del (h.tidy intLaw) hu hn⟩, h3.grown, ?_⟩
  · have e := own_exact h2
    rw [(r.del (h.tidy intLaw) hu hn).size] at e
    exact e
  · obtain ⟨_, _, _, _, _, rfl⟩ := h3
    simp [ChangeMaps.setBlock]
/- the keys, sorted -/
theorem merge_eq {l : List Int} {L : List Fl} (hp : l.Perm (L.map (·.n))) (hu : Up L) : l.mergeSort (fun x y => decide (x ≤ y)) = L.map (·.n) := by
  refine List.Perm.eq_of_pairwise (le := fun a b => a ≤ b) (fun a b _ _ h1 h2 => Int.le_antisymm h1 h2) ?_ ?_ ((List.mergeSort_perm l _).trans hp)
  · have := List.pairwise_mergeSort (le := fun x y : Int => decide (x ≤ y)) (fun a b c h1 h2 => by simp only [decide_eq_true_eq] at *; omega) (fun a b => by simp only [Bool.or_eq_true, decide_eq_true_eq]; omega) l
    exact this.imp (fun {a b} h => by simpa using h)
  · exact List.pairwise_map.2 (hu.imp (fun {a b} h => Int.le_of_lt h))
theorem keys_perm {w : World} {m n : Nat} {L : List Fl} {D : DataW Unit} (h : w.ownsMap Tryz.prog 3 flE m n D) (r : Rep D L) (hu : Up L) : (L.map (·.n)).Perm (intKeys D) := by
  obtain ⟨es, hD, hpw, _⟩ := h.entries intLaw
  obtain ⟨es', hD', hko⟩ := h.keysOf
  obtain rfl : es = es' := by rw [hD] at hD'; simpa using hD'
  subst hD
  refine perm_intKeys hpw (fun p hp => by obtain ⟨v, hv⟩ := hko p hp; obtain ⟨x, _, hx, _⟩ := Maps.keyOf_i64 Tryz.underlying3 hv; exact ⟨x, hx⟩) (List.pairwise_map.2 (hu.imp (fun {a b} h => Int.ne_of_lt h))) (fun x => ?_)
  rw [r.has]
  constructor
  · intro hx
    obtain ⟨f, hf, rfl⟩ := List.mem_map.1 hx
    exact Dk.has_of hf
  · intro hx
    obtain ⟨f, hf, rfl⟩ := Dk.has_mem hx
    exact List.mem_map.2 ⟨f, hf, rfl⟩

/- what a call on a disk may turn -/
structure Td (w w' : World) (b m : Nat) : Prop where
  os : w'.os = w.os
  tape : w'.tape = w.tape
  output : w'.output = w.output
  size : w.heap.size ≤ w'.heap.size
  block : ∀ j, j < w.heap.size → j ≠ b → j ≠ m → w'.heap[j]? = w.heap[j]?
theorem Td.gr {w w' : World} {b m : Nat} (g : Gr w w') : Td w w' b m := ⟨g.below.os, g.below.tape, g.below.output, g.size, fun j hj _ _ => g.below.block j hj⟩
theorem Td.refl (w : World) (b m : Nat) : Td w w b m := Td.gr (Gr.refl w)
theorem Td.trans {a w w' : World} {b m : Nat} (h : Td a w b m) (k : Td w w' b m) : Td a w' b m := by
  have hs := h.size
  exact ⟨k.os.trans h.os, k.tape.trans h.tape, k.output.trans h.output, Nat.le_trans h.size k.size, fun j hj h1 h2 => by rw [k.block j (by omega) h1 h2, h.block j hj h1 h2]⟩
theorem Td.gr' {a w w' : World} {b m : Nat} (h : Td a w b m) (g : Gr w w') : Td a w' b m := h.trans (Td.gr g)
theorem Td.set (w : World) (b m o : Nat) (u : Value) : Td w (w.setCell ⟨b, o, none⟩ u) b m :=
  ⟨rfl, rfl, rfl, by simp [World.setCell], fun j _ hn _ => Below.heap_setCell w _ u j hn⟩
theorem Td.of_grown {w w' : World} {b m : Nat} (g : w.grownBy w' (some m)) : Td w w' b m :=
  ⟨g.os, g.tape, g.output, g.size, fun j hj _ hm => g.block j hj (fun e => hm (by injection e))⟩
theorem Td.cell {w w' : World} {b m j o : Nat} {u : Value} (h : Td w w' b m) (hb : j ≠ b) (hm : j ≠ m) (hc : w.cell? ⟨j, o, none⟩ = some u) : w'.cell? ⟨j, o, none⟩ = some u := by
  rw [World.cell?_of_block (w := w) (h.block j (World.block_lt_of_cell? w _ hc) hb hm)]; exact hc
theorem Td.row {α : Type} {f : α → List Value} {w w' : World} {b m : Nat} (k : Td w w' b m) {ad : Option Addr} {l : List α} (h : RowAt f w ad l) (hd : ∀ a, ad = some a → a.block ≠ b ∧ a.block ≠ m) : RowAt f w' ad l := by
  intro j u hu
  obtain ⟨x, off, rfl, hb, h1⟩ := h j u hu
  exact ⟨x, off, rfl, Nat.lt_of_lt_of_le hb k.size, k.cell (hd _ rfl).1 (hd _ rfl).2 h1⟩

/- a disk in memory -/
structure DAt (w : World) (b m : Nat) (A : Nat → Int) (s : St) : Prop where
  mp : w.cell? ⟨b, 0, none⟩ = some (.map (some m))
  rm : w.cell? ⟨b, 1, none⟩ = some (.int .i64 s.room)
  dd : w.cell? ⟨b, 2, none⟩ = some (.bool s.dead)
  lf : w.cell? ⟨b, 3, none⟩ = some (.int .i64 s.left)
  kp : ∀ i, i < 8 → w.cell? ⟨b, 4 + i, none⟩ = some (.int .i64 (A i))
  fz : ∀ o, o < 12 → w.frozen? ⟨b, o, none⟩ = false
  fl : FilesAt w m s.L
  ka : s.left ≠ 0 → ∀ i, i < 8 → A i = kf s.keep i
  ok : Ok s
variable {w w' : World} {b m : Nat} {A : Nat → Int} {s : St}
theorem DAt.lt (h : DAt w b m A s) : b < w.heap.size := World.block_lt_of_cell? w _ h.mp
theorem DAt.ne (h : DAt w b m A s) : b ≠ m := by
  rintro rfl
  obtain ⟨D, ⟨es, cl, h1, _⟩, _⟩ := h.fl
  have := h.mp
  simp [World.cell?, h1] at this
theorem DAt.keep (h : DAt w b m A s) (hb : w'.heap[b]? = w.heap[b]?) (hm : w'.heap[m]? = w.heap[m]?) : DAt w' b m A s := by
  have hc : ∀ o, w'.cell? ⟨b, o, none⟩ = w.cell? ⟨b, o, none⟩ := fun o => World.cell?_of_block (w := w) hb
  exact ⟨(hc _).trans h.mp, (hc _).trans h.rm, (hc _).trans h.dd, (hc _).trans h.lf, fun i hi => (hc _).trans (h.kp i hi), fun o ho => (World.frozen?_of_block (w := w) hb).trans (h.fz o ho), h.fl.keep hm, h.ka, h.ok⟩
theorem DAt.gr (h : DAt w b m A s) (g : Gr w w') : DAt w' b m A s := h.keep (g.below.block b h.lt) (g.below.block m h.fl.lt)
/- another disk, or a row that grows, turns nothing of this one -/
theorem DAt.grown (h : DAt w b m A s) {r : Option Nat} (g : w.grownBy w' r) (hb : r ≠ some b) (hm : r ≠ some m) : DAt w' b m A s :=
  h.keep (g.block b h.lt (fun e => hb e.symm)) (g.block m h.fl.lt (fun e => hm e.symm))
/- the cells -/
theorem DAt.setLeft (h : DAt w b m A s) (n : Int) (keep : List Int) (hA : n ≠ 0 → ∀ i, i < 8 → A i = kf keep i) (hk : Ok { s with left := n, keep := keep }) : DAt (w.setCell ⟨b, 3, none⟩ (.int .i64 n)) b m A { s with left := n, keep := keep } := by
  have h3 := h.lf
  refine ⟨?_, ?_, ?_, World.cell?_setCell_same _ _ _ h3, ?_, ?_, ?_, hA, hk⟩
  · rw [World.cell?_setCell_other _ _ _ _ (by simp)]; exact h.mp
  · rw [World.cell?_setCell_other _ _ _ _ (by simp)]; exact h.rm
  · rw [World.cell?_setCell_other _ _ _ _ (by simp)]; exact h.dd
  · intro i hi; rw [World.cell?_setCell_other _ _ _ _ (by simp <;> omega)]; exact h.kp i hi
  · intro o ho; rw [World.frozen?_setCell]; exact h.fz o ho
  · exact h.fl.keep (Below.heap_setCell w _ _ m (fun e => h.ne e.symm))
theorem DAt.setDead (h : DAt w b m A s) (x : Bool) : DAt (w.setCell ⟨b, 2, none⟩ (.bool x)) b m A { s with dead := x } := by
  have h3 := h.dd
  refine ⟨?_, ?_, World.cell?_setCell_same _ _ _ h3, ?_, ?_, ?_, ?_, h.ka, ⟨h.ok.up, h.ok.fo, h.ok.len, h.ok.fits, h.ok.r1, h.ok.l0, h.ok.l1⟩⟩
  · rw [World.cell?_setCell_other _ _ _ _ (by simp)]; exact h.mp
  · rw [World.cell?_setCell_other _ _ _ _ (by simp)]; exact h.rm
  · rw [World.cell?_setCell_other _ _ _ _ (by simp)]; exact h.lf
  · intro i hi; rw [World.cell?_setCell_other _ _ _ _ (by simp <;> omega)]; exact h.kp i hi
  · intro o ho; rw [World.frozen?_setCell]; exact h.fz o ho
  · exact h.fl.keep (Below.heap_setCell w _ _ m (fun e => h.ne e.symm))
/- the map -/
theorem DAt.setFiles (h : DAt w b m A s) {L : List Fl} (g : w.grownBy w' (some m)) (hf : FilesAt w' m L) (hk : Ok { s with L := L }) : DAt w' b m A { s with L := L } := by
  have hb := g.block b h.lt (fun e => h.ne (by injection e))
  have hc : ∀ o, w'.cell? ⟨b, o, none⟩ = w.cell? ⟨b, o, none⟩ := fun o => World.cell?_of_block (w := w) hb
  exact ⟨(hc _).trans h.mp, (hc _).trans h.rm, (hc _).trans h.dd, (hc _).trans h.lf, fun i hi => (hc _).trans (h.kp i hi), fun o ho => (World.frozen?_of_block (w := w) hb).trans (h.fz o ho), hf, h.ka, hk⟩
end Go.Proofs.YtojmhhmpmpbpfaaGreatDoor
namespace Go.Proofs.YtojmhhmpmpbpfaaGreatDoor
variable {P : Program} {md : Region.Mode} {ops : Array Oper} {Q : Exit → Act → World → Prop}

/- whatever order is picked from here on; S holds till number s has come -/
def wpAnyL (P : Program) (md : Region.Mode) (ops : Array Oper) (Q : Exit → Act → World → Prop) (s : Nat) (S : World → Prop) : Nat → Array Bool → Act → World → Prop
  | 0, listed, a, w => Region.ready md ops listed = [] ∧ Q .normal a w
  | fuel + 1, listed, a, w =>
    (Region.ready md ops listed = [] → Q .normal a w) ∧
    ∀ i ∈ Region.ready md ops listed, wpOp P ops Q i (fun a' w' => ((listed.setIfInBounds i true).getD s true = false → S w') ∧ wpAnyL P md ops Q s S fuel (listed.setIfInBounds i true) a' w') a w
variable {s : Nat} {S : World → Prop}
theorem wpAny_of_L : ∀ (fuel : Nat) (listed : Array Bool) (a : Act) (w : World), wpAnyL P md ops Q s S fuel listed a w → wpAny P md ops Q fuel listed a w
  | 0, _, _, _, h => h
  | fuel + 1, _, _, _, h => ⟨h.1, fun i hi => wpOp_mono (fun a' w' h' => wpAny_of_L fuel _ a' w' h'.2) (h.2 i hi)⟩
theorem getD_ne {l : Array Bool} {i j : Nat} (h : i ≠ j) : (l.setIfInBounds i true).getD j true = l.getD j true := getD_set_ne true h

theorem wpAnyL_first {i : Nat} {oi os : Oper} {v : Value} (hi : ops[i]? = some oi) (hsel : ∀ (j : Nat) (o : Oper) cs b, ops[j]? = some o → o.op ≠ .select cs b)
    (hQ : ∀ c a w, Q (.panic c) (a.put oi.dst v) w → Q (.panic c) a w) (his : i ≠ s) (hos : ops[s]? = some os) (hdep : ∃ e ∈ os.after, Region.binds md e = true ∧ e.on = i) :
    ∀ (fuel : Nat) (listed : Array Bool) (a : Act) (w : World),
      (∀ j oj, ops[j]? = some oj → j ≠ i → listed.getD j true = false → (∀ e ∈ oj.after, Region.binds md e = true → e.on ≠ i) → oi.apart ops oj = true) →
      i ∈ Region.ready md ops listed → YieldsIf P ops S oi v a → listed.getD s true = false → S w →
      wpAnyL P md ops Q s S fuel (listed.setIfInBounds i true) (a.put oi.dst v) w → wpAnyL P md ops Q s S (fuel + 1) listed a w := by
  intro fuel
  induction fuel with
  | zero =>
    intro listed a w _ hr hy _ hS H
    refine ⟨fun h => (by rw [h] at hr; cases hr), fun j hj => ?_⟩
    by_cases hji : j = i
    · subst hji; exact hy.wpOp hi hS ⟨fun _ => hS, H⟩
    · have := ready_mono hj hji
      rw [H.1] at this
      cases this
  | succ fuel ih =>
    intro listed a w hfree hr hy hls hS H
    refine ⟨fun h => (by rw [h] at hr; cases hr), fun j hj => ?_⟩
    by_cases hji : j = i
    · subst hji; exact hy.wpOp hi hS ⟨fun _ => hS, H⟩
    · have h1 := H.2 j (ready_mono hj hji)
      obtain ⟨hjun, oj, hoj, hall⟩ := mem_ready.1 hj
      have hnot : ∀ e ∈ oj.after, Region.binds md e = true → e.on ≠ i := fun e he hb heq => by
        have h1 := hall e he hb
        have h0 := (mem_ready.1 hr).1
        rw [heq] at h1
        rcases Nat.lt_or_ge i listed.size with h' | h'
        · simp [h'] at h0 h1; rw [h0] at h1; cases h1
        · simp [Array.getElem?_eq_none h'] at h1
      have hjs : j ≠ s := fun e => by
        subst e
        rw [hos] at hoj
        cases hoj
        obtain ⟨e, he, hb, hon⟩ := hdep
        exact hnot e he hb hon
      have h2 := wpOp_putIf hoj (hfree j oj hoj hji hjun hnot) (fun cs b => hsel i oi cs b hi) (fun cs b => hsel j oj cs b hoj) hQ hy h1
      have hfree' : ∀ k ok, ops[k]? = some ok → k ≠ i → (listed.setIfInBounds j true).getD k true = false →
          (∀ e ∈ ok.after, Region.binds md e = true → e.on ≠ i) → oi.apart ops ok = true := fun k ok hk hki hun hno => by
        refine hfree k ok hk hki ?_ hno
        by_cases hjk : j = k
        · subst hjk; exact hjun
        · rw [getD_set_ne true hjk] at hun; exact hun
      have hls' : (listed.setIfInBounds j true).getD s true = false := by rw [getD_ne hjs]; exact hls
      have hls2 : ((listed.setIfInBounds i true).setIfInBounds j true).getD s true = false := by rw [getD_ne hjs, getD_ne his]; exact hls
      refine wpOp_mono (fun a' w' h3 => ⟨fun _ => h3.2.1 hls2, ih (listed.setIfInBounds j true) a' w' hfree' (ready_mono hr (Ne.symm hji)) h3.1 hls' (h3.2.1 hls2) ?_⟩) h2
      rw [Array.setIfInBounds_comm _ _ hji]
      exact h3.2.2
theorem wpAnyL_firstW {i : Nat} {oi : Oper} {v : Value} (hi : ops[i]? = some oi) (hsel : ∀ (j : Nat) (o : Oper) cs b, ops[j]? = some o → o.op ≠ .select cs b)
    (hQ : ∀ c a w, Q (.panic c) (a.put oi.dst v) w → Q (.panic c) a w) (his : i ≠ s) :
    ∀ (fuel : Nat) (listed : Array Bool) (a : Act) (w : World),
      (∀ j oj, ops[j]? = some oj → j ≠ i → listed.getD j true = false → (∀ e ∈ oj.after, Region.binds md e = true → e.on ≠ i) → oi.apart ops oj = true) →
      i ∈ Region.ready md ops listed → YieldsIf P ops (fun _ => True) oi v a → (listed.getD s true = false → S w) →
      wpAnyL P md ops Q s S fuel (listed.setIfInBounds i true) (a.put oi.dst v) w → wpAnyL P md ops Q s S (fuel + 1) listed a w := by
  intro fuel
  induction fuel with
  | zero =>
    intro listed a w _ hr hy hS H
    refine ⟨fun h => (by rw [h] at hr; cases hr), fun j hj => ?_⟩
    by_cases hji : j = i
    · subst hji; exact hy.wpOp hi trivial ⟨fun h => hS (by rw [getD_ne his] at h; exact h), H⟩
    · have := ready_mono hj hji
      rw [H.1] at this
      cases this
  | succ fuel ih =>
    intro listed a w hfree hr hy hS H
    refine ⟨fun h => (by rw [h] at hr; cases hr), fun j hj => ?_⟩
    by_cases hji : j = i
    · subst hji; exact hy.wpOp hi trivial ⟨fun h => hS (by rw [getD_ne his] at h; exact h), H⟩
    · have h1 := H.2 j (ready_mono hj hji)
      obtain ⟨hjun, oj, hoj, hall⟩ := mem_ready.1 hj
      have hnot : ∀ e ∈ oj.after, Region.binds md e = true → e.on ≠ i := fun e he hb heq => by
        have h1 := hall e he hb
        have h0 := (mem_ready.1 hr).1
        rw [heq] at h1
        rcases Nat.lt_or_ge i listed.size with h' | h'
        · simp [h'] at h0 h1; rw [h0] at h1; cases h1
        · simp [Array.getElem?_eq_none h'] at h1
      have h2 := wpOp_putIf hoj (hfree j oj hoj hji hjun hnot) (fun cs b => hsel i oi cs b hi) (fun cs b => hsel j oj cs b hoj) hQ hy h1
      have hfree' : ∀ k ok, ops[k]? = some ok → k ≠ i → (listed.setIfInBounds j true).getD k true = false →
          (∀ e ∈ ok.after, Region.binds md e = true → e.on ≠ i) → oi.apart ops ok = true := fun k ok hk hki hun hno => by
        refine hfree k ok hk hki ?_ hno
        by_cases hjk : j = k
        · subst hjk; exact hjun
        · rw [getD_set_ne true hjk] at hun; exact hun
      have hsame : ((listed.setIfInBounds i true).setIfInBounds j true).getD s true = (listed.setIfInBounds j true).getD s true := by
        rw [Array.setIfInBounds_comm _ _ (Ne.symm hji), getD_ne his]
      refine wpOp_mono (fun a' w' h3 => ⟨fun h => h3.2.1 (by rw [hsame]; exact h), ih (listed.setIfInBounds j true) a' w' hfree' (ready_mono hr (Ne.symm hji)) h3.1 (fun h => h3.2.1 (by rw [hsame]; exact h)) ?_⟩) h2
      rw [Array.setIfInBounds_comm _ _ hji]
      exact h3.2.2

def waits (md : Region.Mode) (ops : Array Oper) (s i : Nat) : Bool := match ops[s]? with | some o => o.after.any fun e => Region.binds md e && e.on == i | none => false
theorem waits_spec {i : Nat} (h : waits md ops s i = true) : ∃ os, ops[s]? = some os ∧ ∃ e ∈ os.after, Region.binds md e = true ∧ e.on = i := by
  unfold waits at h
  cases hs : ops[s]? with
  | none => rw [hs] at h; cases h
  | some o =>
    rw [hs] at h
    obtain ⟨e, he, hb⟩ := Array.any_eq_true'.1 h
    simp only [Bool.and_eq_true, beq_iff_eq] at hb
    exact ⟨o, rfl, e, he, hb.1, hb.2⟩
/- taken first, under S -/
theorem takeS (i d : Nat) {oi : Oper} {v : Value} {fuel : Nat} {listed : Array Bool} {a : Act} {w : World} (hi : ops[i]? = some oi) (hd : oi.dst = some d) (his : i ≠ s) (hwt : waits md ops s i = true)
    (hs : Region.noSelect ops = true) (hf : Region.free md ops listed i = true) (hr : (Region.ready md ops listed).contains i = true) (hls : listed.getD s true = false)
    (hQ : ∀ c a w, Q (.panic c) (a.put (some d) v) w → Q (.panic c) a w) (hw : Region.wanted oi (yielded ops a.tmps) = true) (hy : ∀ w, S w → (execOp a.eval oi).run P w = .ok (.value v) w) (hS : S w)
    (h : wpAnyL P md ops Q s S fuel (listed.setIfInBounds i true) (a.put (some d) v) w) : wpAnyL P md ops Q s S (fuel + 1) listed a w := by
  rw [← hd] at hQ h
  obtain ⟨os, hos, hdep⟩ := waits_spec hwt
  exact wpAnyL_first hi (Region.noSelect_spec hs) hQ his hos hdep fuel listed a w (Region.free_spec hi hf) (by simpa using hr) (Or.inl ⟨hw, hy⟩) hls hS h
/- taken first, whatever the memory -/
theorem takeW (i d : Nat) {oi : Oper} {v : Value} {fuel : Nat} {listed : Array Bool} {a : Act} {w : World} (hi : ops[i]? = some oi) (hd : oi.dst = some d) (his : i ≠ s)
    (hs : Region.noSelect ops = true) (hf : Region.free md ops listed i = true) (hr : (Region.ready md ops listed).contains i = true)
    (hQ : ∀ c a w, Q (.panic c) (a.put (some d) v) w → Q (.panic c) a w) (hw : Region.wanted oi (yielded ops a.tmps) = true) (hy : ∀ w, (execOp a.eval oi).run P w = .ok (.value v) w) (hS : listed.getD s true = false → S w)
    (h : wpAnyL P md ops Q s S fuel (listed.setIfInBounds i true) (a.put (some d) v) w) : wpAnyL P md ops Q s S (fuel + 1) listed a w := by
  rw [← hd] at hQ h
  exact wpAnyL_firstW hi (Region.noSelect_spec hs) hQ his fuel listed a w (Region.free_spec hi hf) (by simpa using hr) (Or.inl ⟨hw, fun w _ => hy w⟩) hS h
/- the only one that may come up -/
theorem stepL (i : Nat) {o : Oper} {fuel : Nat} {listed : Array Bool} {a : Act} {w : World} (hr : Region.ready md ops listed = [i]) (ho : ops[i]? = some o)
    (h : ∀ K' : Act → World → Prop, Shut (∀ a w, ((listed.setIfInBounds i true).getD s true = false → S w) → wpAnyL P md ops Q s S fuel (listed.setIfInBounds i true) a w → K' a w) → if Region.wanted o (yielded ops a.tmps) = true then Oper.wp P o a w K' Q else K' (a.put o.dst undef) w) :
    wpAnyL P md ops Q s S (fuel + 1) listed a w := by
  refine ⟨fun h0 => (by rw [hr] at h0; cases h0), fun j hj => ?_⟩
  rw [hr] at hj
  obtain rfl : j = i := by simpa using hj
  exact wpOp_step ho (fun K' hK => h K' (fun a w hS hW => hK a w ⟨hS, hW⟩))
theorem stepC (i : Nat) {o : Oper} {fuel : Nat} {listed : Array Bool} {a : Act} {w : World} (hr : Region.ready md ops listed = [i]) (ho : ops[i]? = some o)
    (h : ∀ K' : Act → World → Prop, Shut (∀ a w, S w → (S w → wpAnyL P md ops Q s S fuel (listed.setIfInBounds i true) a w) → K' a w) → if Region.wanted o (yielded ops a.tmps) = true then Oper.wp P o a w K' Q else K' (a.put o.dst undef) w) :
    wpAnyL P md ops Q s S (fuel + 1) listed a w :=
  stepL i hr ho (fun K' hK => h K' (fun a w hS hW => hK.out a w (fun _ => hS) (hW hS)))
theorem listed_done {l : Array Bool} {s : Nat} (h1 : l.getD s true = true) (h : l.getD s true = false) {S : Prop} : S := by rw [h1] at h; cases h
theorem stepS {o : Oper} {fuel : Nat} {listed : Array Bool} {a : Act} {w : World} (hr : Region.ready md ops listed = [s]) (ho : ops[s]? = some o) (hl : (listed.setIfInBounds s true).getD s true = true)
    (h : ∀ K' : Act → World → Prop, Shut (∀ a w, wpAnyL P md ops Q s S fuel (listed.setIfInBounds s true) a w → K' a w) → if Region.wanted o (yielded ops a.tmps) = true then Oper.wp P o a w K' Q else K' (a.put o.dst undef) w) :
    wpAnyL P md ops Q s S (fuel + 1) listed a w :=
  stepL s hr ho (fun K' hK => h K' (fun a w hW => hK.out a w (fun h => listed_done hl h) hW))
theorem doneL {listed : Array Bool} {a : Act} {w : World} (hr : Region.ready md ops listed = []) (h : Q .normal a w) : ∀ fuel, wpAnyL P md ops Q s S fuel listed a w
  | 0 => ⟨hr, h⟩
  | _ + 1 => ⟨fun _ => h, by rw [hr]; simp⟩
theorem beginL (s : Nat) (S : World → Prop) {id : Nat} {a : Act} {w : World} (hm : P.follows .mixedOrders = true) (hS : S w.drew)
    (h : S w.drew → wpAnyL P .any ops Q s S ops.size (Array.replicate ops.size false) a w.drew) : (Code.region id ops true).wp P Q a w :=
  wp_region_any hm (wpAny_of_L (s := s) (S := S) _ _ _ _ (h hS))
end Go.Proofs.YtojmhhmpmpbpfaaGreatDoor
