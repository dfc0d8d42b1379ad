/- What the proof is made of, part 22. -/
import Derived.Test.YtfobfpigbfepoaaGreatDoorTLBTexts21
import Derived.Lib.AppendZeros
import Derived.Laws.AppendOwnNone
import Derived.Deep.DeepCutAuto
namespace Go.Proofs.YtfobfpigbfepoaaGreatDoor
open Go.RowKit
open Df (Stp)
theorem step_append_row {P : Program} {w : World} {ops : Array Oper} {o : Oper} {a : Act} {K : Act → World → Prop} {Q : Exit → Act → World → Prop} {E : Prop} (hgd : o.guard = none) (s x : Operand) (t : TypeId)
    (ho : o.op = .call { callee := .builtin .append, args := #[s, x], argTypes := #[t, t] })
    (base : Nat) (e : TypeId) (i : TypeInfo) (z : Value) (size bytes : Nat) (ht : P.underlying t = some (.slice e)) (hi : P.info? e = some i) (hz : i.zero = some z)
    (hsize : i.size = size) (hby : i.bytes = bytes) (hzs : z.cells.size = size) (hsz : 0 < size)
    (v : Value) (n : Nat) (xs : List Value) (hs : a.eval s = v) (hown : w.ownsRow base e size v n xs)
    {α : Type} {f : α → List Value} (hf : ∀ x, (f x).length = size) (L : List α) (ad : Option Addr) (c : Nat) (hx : a.eval x = .slice ad L.length c) (hc : ad = none → c = 0) (row : RowAt f w ad L) (h1 : ∀ u ∈ L.flatMap f, u.oneCell' = true)
    (h63 : n + L.length ≤ maxLen) (hbytes : (n + L.length) * bytes ≤ 140737488355328) (hbase : base ≤ w.heap.size)
    (h : ∀ v' w', w'.ownsRow base e size v' (n + L.length) (xs ++ L.flatMap f) → w.grownBy w' v.ownBlock → K (a.put o.dst v') w') :
    if Region.wanted o (yielded ops a.tmps) = true then Oper.wp P o a w K Q else E := by
  have hw : Region.wanted o (yielded ops a.tmps) = true := by simp [Region.wanted, hgd]
  rw [if_pos hw]
  cases ad with
  | none =>
    have hL := RowAt.none hf hsz row
    subst hL
    obtain rfl := hc rfl
    have hrun := run_append_owned_none (P := P) (w := w) base t o.type e i size ht hi v n xs hown
    unfold Oper.wp
    simp only [List.length_nil] at hx
    simp [execOp, ho, resolve, invoke, builtin, hs, hx, hrun, Result.andThen]
    exact h v w (by simpa using hown) ⟨rfl, rfl, rfl, Nat.le_refl _, fun _ _ _ => rfl⟩
  | some ad =>
    obtain ⟨v', w', hr, h2, h3, _⟩ := run_append_own (P := P) w base t o.type e i z size bytes ht hi hz hsize hby hzs hsz v n xs hown ad L.length c (L.flatMap f) (flat_len hf L) row.news h1 h63 hbytes hbase
    unfold Oper.wp execOp
    simp only [ho, resolve, invoke, builtin, Sem.run_bind, Sem.run_pure, Result.andThen_ok, List.map_toArray, List.map_cons, List.map_nil, hs, hx, hr]
    exact h v' w' h2 h3
theorem row_take {α : Type} {f : α → List Value} {c : Nat} (hc : ∀ x, (f x).length = c) {w : World} {ad : Option Addr} {L : List α} (h : RowAt f w ad L) (p : Nat) (hp : p ≤ L.length) : RowAt f w ad (L.take p) := by
  intro j u hu
  rw [flat_take hc L p hp, List.getElem?_take] at hu
  split at hu
  · exact h j u hu
  · cases hu
theorem row_drop {α : Type} {f : α → List Value} {c : Nat} (hc : ∀ x, (f x).length = c) {w : World} {a : Addr} {L : List α} (h : RowAt f w (some a) L) (p : Nat) (hp : p ≤ L.length) : RowAt f w (some (a.add (p * c))) (L.drop p) := by
  intro j u hu
  rw [flat_drop hc L p hp, List.getElem?_drop] at hu
  obtain ⟨b, off, e, hb, h1⟩ := h _ u hu
  cases e
  exact ⟨b, off + p * c, by rw [Addr.add_lit], hb, by rw [Nat.add_assoc]; exact h1⟩
theorem row_new (w : World) (xn : ByteArray) (xa : Option Addr) (xc : Nat) (xl : List Stp) (t : TypeId) : RowAt dmC (w.alloc (.cells #[.string xn, .slice xa xl.length xc] t)) (some ⟨w.heap.size, 0, none⟩) [(⟨xn, xa, xc, xl⟩ : Dm)] := by
  intro j u hu
  refine ⟨w.heap.size, 0, rfl, by simp, ?_⟩
  rw [Nat.zero_add, cell_of_row _ w.heap.size j _ _ _ (heap_alloc_new w _)]
  simpa [dmC] using hu
theorem row_grown {α : Type} {f : α → List Value} {w w' : World} {ad : Option Addr} {L : List α} {r : Option Nat} (h : RowAt f w ad L) (g : w.grownBy w' r) (hr : ∀ a, ad = some a → r ≠ some a.block) : RowAt f w' ad L := by
  intro j u hu
  obtain ⟨b, off, e, hb, h1⟩ := h j u hu
  refine ⟨b, off, e, Nat.lt_of_lt_of_le hb g.size, ?_⟩
  rw [← h1]; exact World.cell?_of_block (w := w) (g.block b hb (fun k => hr _ e k.symm))
def PuF (w : World) (D : List Dm) (x : Dm) (e : Ending) (w' : World) : Prop :=
  (Bk.putE (dns D) x.dn ≠ 0 ∧ e = .returned (.tuple #[.slice none 0 0, .int .i64 (Bk.putE (dns D) x.dn)]) ∧ Gr w w') ∨
  (Bk.putE (dns D) x.dn = 0 ∧ ∃ a c D', e = .returned (.tuple #[.slice a D'.length c, .int .i64 0]) ∧ BkAt w' a D' ∧ (a = none → c = 0) ∧ D'.length ≤ c ∧ c ≤ 9223372036854775807 ∧ dns D' = Bk.ins (dns D) x.dn ∧ (∀ d ∈ D', d ∈ D ∨ d = x) ∧ (∀ p, a = some p → w.heap.size ≤ p.block) ∧ Gr w w')
set_option maxHeartbeats 8000000 in
set_option maxRecDepth 100000 in
theorem refPut_any (D : List Dm) (x : Dm) (ad : Option Addr) (cap : Nat) (w : World) (hB : BkAt w ad D) (hcap : ad = none → cap = 0) (hlc : D.length ≤ cap) (hc63 : cap ≤ 9223372036854775807) (hm : Bk.mayB (dns D) = true) (hS : StpsAt w x.ad x.L) (hx : inD x) (hok : Bk.okB x.dn = true) :
    Calls Tryz.prog 25 #[.slice ad D.length cap, .agg #[.string x.nm, .slice x.ad x.L.length x.cap]] w fun e w' => PuF w D x e w' := by
  obtain ⟨i0, hi0, hz0, hz1, hz2⟩ := info_parts infoDef
  obtain ⟨m1, m2, m3⟩ := (Bk.may_iff _).1 hm
  rw [dns_len] at m1
  rw [← nmD_eq] at m3
  have hpl : Bk.pos (nmD D) x.nm ≤ D.length := by have := Bk.pos_le (nmD D) x.nm; rw [nmD_len] at this; exact this
  have HPos : Hid (∀ j (h : j < D.length), (Bk.lt D[j].nm x.nm = true ↔ j < Bk.pos (nmD D) x.nm)) := by
    intro j h
    have := Bk.pos_iff (nmD D) x.nm m3 j (by rw [nmD_len]; exact h)
    rw [nmD_get D j h] at this
    exact this
  have HHas : Hid (∀ (h : Bk.pos (nmD D) x.nm < D.length), (D[Bk.pos (nmD D) x.nm].nm = x.nm ↔ Bk.hasB (nmD D) x.nm = true)) := by
    intro h
    rw [Bk.has_iff]
    have hg := nmD_get D _ h
    rw [← hg]
    constructor
    · intro e; rw [← e]; exact List.getElem_mem _
    · intro hm; exact (Bk.pos_mem m3 hm).2
  have HHasN : Hid (D.length ≤ Bk.pos (nmD D) x.nm → Bk.hasB (nmD D) x.nm = false) := by
    intro h
    cases hb : Bk.hasB (nmD D) x.nm with
    | false => rfl
    | true =>
      obtain ⟨h1, _⟩ := Bk.pos_mem m3 ((Bk.has_iff _ _).1 hb)
      rw [nmD_len] at h1
      omega
  have HE : Hid (Bk.putE (dns D) x.dn = if Bk.hasB (nmD D) x.nm = true then 71 else if 8 ≤ D.length then 3 else 0) := by
    show _ = _
    unfold Bk.putE
    rw [hok, ← nmD_eq, dns_len]; rfl
  have HIns : Hid (dns (D.take (Bk.pos (nmD D) x.nm) ++ [x] ++ D.drop (Bk.pos (nmD D) x.nm)) = Bk.ins (dns D) x.dn) := by
    show _ = _
    unfold Bk.ins
    rw [← nmD_eq]
    unfold dns
    rw [List.map_append, List.map_append, List.map_take, List.map_drop, List.append_assoc]; rfl
  have HXi := Lib.hid hx
  have HS := Lib.hid hS
  have HB := Lib.hid hB
  have HX0 := Lib.hid (TwoAt.new w (.string x.nm) (.slice x.ad x.L.length x.cap) 38 _ rfl)
  generalize Bk.hasB (nmD D) x.nm = hb at *
  generalize Bk.pos (nmD D) x.nm = p at *
  clear m2 m3 hm hB hS hx hok
  obtain ⟨xn, xa, xc, xl⟩ := x
  dsimp only at *
  go_enter Tryz.func25, Tryz.ntmps25
  go_wp2
  obtain ⟨W, hW⟩ : ∃ W, W = w.alloc (.cells #[.string xn, .slice xa xl.length xc] 38) := ⟨_, rfl⟩
  have HGW : Hid (Gr w W) := by show Gr _ _; rw [hW]; exact (Gr.refl _).alloc
  rw [← hW] at HX0 ⊢
  clear hW
  go_loopw [6] (fun s6 wr => ∃ k : Nat, s6 = .int .i64 k ∧ k ≤ p ∧ Gr W wr) (fun s6 _ => D.length + 1 - (intOf s6).toNat)
  case atStart => exact ⟨0, rfl, Nat.zero_le _, Gr.refl _⟩
  case round =>
    obtain ⟨k, rfl, hk, hg⟩ := hrel
    have HG : Hid (Gr W wr) := hg
    obtain ⟨c0, c1, _, _, lt⟩ := HX0.out.gr hg
    clear hg
    by_cases hkp : k < p
    · have hlt : k < D.length := by omega
      obtain ⟨b, off, rfl, hb', d0, d1⟩ := DmsAt.at (HB.out.row.gr (HGW.out.trans HG.out)) k hlt
      have hki : (k : Int) < (D.length : Int) := by omega
      have hbl : Op.bytesLess D[k].nm.toList xn.toList = true := (HPos.out k hlt).2 hkp
      generalize D[k] = y at *
      go_wp2_with fail
      refine wp_region_held_drew (S := (fun w' => Gr wr w' ∧ w'.cell? ⟨b, off + k * 2, none⟩ = some (.string y.nm) ∧ w'.cell? ⟨w.heap.size, 0, none⟩ = some (.string xn))) (by kernel_rfl) (by exact hold2 (by (repeat' (first | with_reducible exact Gr.refl _ | with_reducible refine Gr.set ?_ _ ?_ _ | with_reducible refine Gr.alloc ?_ | with_reducible refine Gr.drew ?_ | with_reducible refine Gr.trans ?_ (by assumption))) <;> (first | (simp; done) | (simp; omega) | omega)) d0 c0) (fun hHeld => ?_)
      refine take_yes 0 7 (v := ?_) rfl rfl (by kernel_rfl) (by kernel_rfl) (by kernel_rfl) (fun _ _ _ h => h) (by rfl) ?_ hHeld ?_
      rotate_left
      · (intro w hSw; (try dsimp only at hSw); go_simp; try with_reducible rfl)
      simp only [Act.put, List.setIfInBounds_toArray, List.set_cons_zero, List.set_cons_succ]
      refine take_yes 1 8 (v := ?_) rfl rfl (by kernel_rfl) (by kernel_rfl) (by kernel_rfl) (fun _ _ _ h => h) (by rfl) ?_ hHeld ?_
      rotate_left
      · (intro w hSw; (try dsimp only at hSw); go_simp; try with_reducible rfl)
      simp only [Act.put, List.setIfInBounds_toArray, List.set_cons_zero, List.set_cons_succ]
      refine take_yes 2 9 (v := ?_) rfl rfl (by kernel_rfl) (by kernel_rfl) (by kernel_rfl) (fun _ _ _ h => h) (by rfl) ?_ hHeld ?_
      rotate_left
      · (intro w hSw; (try dsimp only at hSw); go_simp; try with_reducible rfl)
      simp only [Act.put, List.setIfInBounds_toArray, List.set_cons_zero, List.set_cons_succ]
      refine take_yes 3 10 (v := ?_) rfl rfl (by kernel_rfl) (by kernel_rfl) (by kernel_rfl) (fun _ _ _ h => h) (by rfl) ?_ hHeld ?_
      rotate_left
      · (intro w hSw; (try dsimp only at hSw); go_simp; try with_reducible rfl)
      simp only [Act.put, List.setIfInBounds_toArray, List.set_cons_zero, List.set_cons_succ]
      refine take_yes 4 11 (v := ?_) rfl rfl (by kernel_rfl) (by kernel_rfl) (by kernel_rfl) (fun _ _ _ h => h) (by rfl) ?_ hHeld ?_
      rotate_left
      · (intro w hSw; (try dsimp only at hSw); go_simp; try with_reducible rfl)
      simp only [Act.put, List.setIfInBounds_toArray, List.set_cons_zero, List.set_cons_succ]
      refine take_yes 5 12 (v := ?_) rfl rfl (by kernel_rfl) (by kernel_rfl) (by kernel_rfl) (fun _ _ _ h => h) (by rfl) ?_ hHeld ?_
      rotate_left
      · (intro w hSw; (try dsimp only at hSw); go_simp; try with_reducible rfl)
      simp only [Act.put, List.setIfInBounds_toArray, List.set_cons_zero, List.set_cons_succ]
      refine take_yes 6 13 (v := ?_) rfl rfl (by kernel_rfl) (by kernel_rfl) (by kernel_rfl) (fun _ _ _ h => h) (by rfl) ?_ hHeld ?_
      rotate_left
      · (intro w hSw; (try dsimp only at hSw); go_simp; try with_reducible rfl)
      simp only [Act.put, List.setIfInBounds_toArray, List.set_cons_zero, List.set_cons_succ]
      refine take_yes 7 14 (v := ?_) rfl rfl (by kernel_rfl) (by kernel_rfl) (by kernel_rfl) (fun _ _ _ h => h) (by rfl) ?_ hHeld ?_
      rotate_left
      · (intro w hSw; (try dsimp only at hSw); go_simp; try with_reducible rfl)
      simp only [Act.put, List.setIfInBounds_toArray, List.set_cons_zero, List.set_cons_succ]
      refine take_yes 8 15 (v := ?_) rfl rfl (by kernel_rfl) (by kernel_rfl) (by kernel_rfl) (fun _ _ _ h => h) (by rfl) ?_ hHeld ?_
      rotate_left
      · (intro w hSw; (try dsimp only at hSw); go_simp; try with_reducible rfl)
      simp only [Act.put, List.setIfInBounds_toArray, List.set_cons_zero, List.set_cons_succ]
      refine take_yes 9 16 (v := ?_) rfl rfl (by kernel_rfl) (by kernel_rfl) (by kernel_rfl) (fun _ _ _ h => h) (by rfl) ?_ hHeld ?_
      rotate_left
      · (intro w hSw; (try dsimp only at hSw); go_simp; try with_reducible rfl)
      simp only [Act.put, List.setIfInBounds_toArray, List.set_cons_zero, List.set_cons_succ]
      refine take_yes 10 17 (v := ?_) rfl rfl (by kernel_rfl) (by kernel_rfl) (by kernel_rfl) (fun _ _ _ h => h) (by rfl) ?_ hHeld ?_
      rotate_left
      · (intro w hSw; (try dsimp only at hSw); go_simp; try with_reducible rfl)
      simp only [Act.put, List.setIfInBounds_toArray, List.set_cons_zero, List.set_cons_succ]
      refine take_yes 11 18 (v := ?_) rfl rfl (by kernel_rfl) (by kernel_rfl) (by kernel_rfl) (fun _ _ _ h => h) (by rfl) ?_ hHeld ?_
      rotate_left
      · (intro w hSw; (try dsimp only at hSw); go_simp; try with_reducible rfl)
      simp only [Act.put, List.setIfInBounds_toArray, List.set_cons_zero, List.set_cons_succ]
      refine take_yes 12 19 (v := ?_) rfl rfl (by kernel_rfl) (by kernel_rfl) (by kernel_rfl) (fun _ _ _ h => h) (by rfl) ?_ hHeld ?_
      rotate_left
      · (intro w hSw; (try dsimp only at hSw); go_simp; try with_reducible rfl)
      simp only [Act.put, List.setIfInBounds_toArray, List.set_cons_zero, List.set_cons_succ]
      refine take_yes 13 20 (v := ?_) rfl rfl (by kernel_rfl) (by kernel_rfl) (by kernel_rfl) (fun _ _ _ h => h) (by rfl) ?_ hHeld ?_
      rotate_left
      · (intro w hSw; (try dsimp only at hSw); go_simp; try with_reducible rfl)
      simp only [Act.put, List.setIfInBounds_toArray, List.set_cons_zero, List.set_cons_succ]
      refine wpAnyH_done (by kernel_rfl) ?_ _
      go_wp2
      go_roundw
      case rel => exact ⟨k + 1, by go_num, by omega, HG.out.trans (by (repeat' (first | with_reducible exact Gr.refl _ | with_reducible refine Gr.set ?_ _ ?_ _ | with_reducible refine Gr.alloc ?_ | with_reducible refine Gr.drew ?_ | with_reducible refine Gr.trans ?_ (by assumption))) <;> (first | (simp; done) | (simp; omega) | omega))⟩
      case measure => simp [intOf]; omega
    · obtain rfl : p = k := by omega
      by_cases hlt : p < D.length
      · obtain ⟨b, off, e', hb', d0, d1⟩ := DmsAt.at (HB.out.row.gr (HGW.out.trans HG.out)) p hlt
        have hki : (p : Int) < (D.length : Int) := by omega
        have hbl : Op.bytesLess D[p].nm.toList xn.toList = false := by
          cases e : Op.bytesLess D[p].nm.toList xn.toList with
          | false => rfl
          | true => have := (HPos.out p hlt).1 e; omega
        have hH := HHas.out hlt
        subst e'
        have ht := text_eq D[p].nm xn.data.toList
        rw [Lex.bytes_list, ← show xn.toList = xn.data.toList from ByteArray.toList_eq xn] at ht
        have hq : decide (D[p].nm = xn) = hb := by
          cases hb with
          | true => exact decide_eq_true (hH.2 rfl)
          | false => exact decide_eq_false (fun e => by have := hH.1 e; cases this)
        rw [hq] at ht
        clear hH hq
        generalize D[p] = y at *
        go_wp2_with fail
        refine wp_region_held_drew (S := (fun w' => Gr wr w' ∧ w'.cell? ⟨b, off + p * 2, none⟩ = some (.string y.nm) ∧ w'.cell? ⟨w.heap.size, 0, none⟩ = some (.string xn))) (by kernel_rfl) (by exact hold2 (by (repeat' (first | with_reducible exact Gr.refl _ | with_reducible refine Gr.set ?_ _ ?_ _ | with_reducible refine Gr.alloc ?_ | with_reducible refine Gr.drew ?_ | with_reducible refine Gr.trans ?_ (by assumption))) <;> (first | (simp; done) | (simp; omega) | omega)) d0 c0) (fun hHeld => ?_)
        refine take_yes 0 7 (v := ?_) rfl rfl (by kernel_rfl) (by kernel_rfl) (by kernel_rfl) (fun _ _ _ h => h) (by rfl) ?_ hHeld ?_
        rotate_left
        · (intro w hSw; (try dsimp only at hSw); go_simp; try with_reducible rfl)
        simp only [Act.put, List.setIfInBounds_toArray, List.set_cons_zero, List.set_cons_succ]
        refine take_yes 1 8 (v := ?_) rfl rfl (by kernel_rfl) (by kernel_rfl) (by kernel_rfl) (fun _ _ _ h => h) (by rfl) ?_ hHeld ?_
        rotate_left
        · (intro w hSw; (try dsimp only at hSw); go_simp; try with_reducible rfl)
        simp only [Act.put, List.setIfInBounds_toArray, List.set_cons_zero, List.set_cons_succ]
        refine take_yes 2 9 (v := ?_) rfl rfl (by kernel_rfl) (by kernel_rfl) (by kernel_rfl) (fun _ _ _ h => h) (by rfl) ?_ hHeld ?_
        rotate_left
        · (intro w hSw; (try dsimp only at hSw); go_simp; try with_reducible rfl)
        simp only [Act.put, List.setIfInBounds_toArray, List.set_cons_zero, List.set_cons_succ]
        refine take_yes 3 10 (v := ?_) rfl rfl (by kernel_rfl) (by kernel_rfl) (by kernel_rfl) (fun _ _ _ h => h) (by rfl) ?_ hHeld ?_
        rotate_left
        · (intro w hSw; (try dsimp only at hSw); go_simp; try with_reducible rfl)
        simp only [Act.put, List.setIfInBounds_toArray, List.set_cons_zero, List.set_cons_succ]
        refine take_yes 4 11 (v := ?_) rfl rfl (by kernel_rfl) (by kernel_rfl) (by kernel_rfl) (fun _ _ _ h => h) (by rfl) ?_ hHeld ?_
        rotate_left
        · (intro w hSw; (try dsimp only at hSw); go_simp; try with_reducible rfl)
        simp only [Act.put, List.setIfInBounds_toArray, List.set_cons_zero, List.set_cons_succ]
        refine take_yes 5 12 (v := ?_) rfl rfl (by kernel_rfl) (by kernel_rfl) (by kernel_rfl) (fun _ _ _ h => h) (by rfl) ?_ hHeld ?_
        rotate_left
        · (intro w hSw; (try dsimp only at hSw); go_simp; try with_reducible rfl)
        simp only [Act.put, List.setIfInBounds_toArray, List.set_cons_zero, List.set_cons_succ]
        refine take_yes 6 13 (v := ?_) rfl rfl (by kernel_rfl) (by kernel_rfl) (by kernel_rfl) (fun _ _ _ h => h) (by rfl) ?_ hHeld ?_
        rotate_left
        · (intro w hSw; (try dsimp only at hSw); go_simp; try with_reducible rfl)
        simp only [Act.put, List.setIfInBounds_toArray, List.set_cons_zero, List.set_cons_succ]
        refine take_yes 7 14 (v := ?_) rfl rfl (by kernel_rfl) (by kernel_rfl) (by kernel_rfl) (fun _ _ _ h => h) (by rfl) ?_ hHeld ?_
        rotate_left
        · (intro w hSw; (try dsimp only at hSw); go_simp; try with_reducible rfl)
        simp only [Act.put, List.setIfInBounds_toArray, List.set_cons_zero, List.set_cons_succ]
        refine take_yes 8 15 (v := ?_) rfl rfl (by kernel_rfl) (by kernel_rfl) (by kernel_rfl) (fun _ _ _ h => h) (by rfl) ?_ hHeld ?_
        rotate_left
        · (intro w hSw; (try dsimp only at hSw); go_simp; try with_reducible rfl)
        simp only [Act.put, List.setIfInBounds_toArray, List.set_cons_zero, List.set_cons_succ]
        refine take_yes 9 16 (v := ?_) rfl rfl (by kernel_rfl) (by kernel_rfl) (by kernel_rfl) (fun _ _ _ h => h) (by rfl) ?_ hHeld ?_
        rotate_left
        · (intro w hSw; (try dsimp only at hSw); go_simp; try with_reducible rfl)
        simp only [Act.put, List.setIfInBounds_toArray, List.set_cons_zero, List.set_cons_succ]
        refine take_yes 10 17 (v := ?_) rfl rfl (by kernel_rfl) (by kernel_rfl) (by kernel_rfl) (fun _ _ _ h => h) (by rfl) ?_ hHeld ?_
        rotate_left
        · (intro w hSw; (try dsimp only at hSw); go_simp; try with_reducible rfl)
        simp only [Act.put, List.setIfInBounds_toArray, List.set_cons_zero, List.set_cons_succ]
        refine take_yes 11 18 (v := ?_) rfl rfl (by kernel_rfl) (by kernel_rfl) (by kernel_rfl) (fun _ _ _ h => h) (by rfl) ?_ hHeld ?_
        rotate_left
        · (intro w hSw; (try dsimp only at hSw); go_simp; try with_reducible rfl)
        simp only [Act.put, List.setIfInBounds_toArray, List.set_cons_zero, List.set_cons_succ]
        refine take_yes 12 19 (v := ?_) rfl rfl (by kernel_rfl) (by kernel_rfl) (by kernel_rfl) (fun _ _ _ h => h) (by rfl) ?_ hHeld ?_
        rotate_left
        · (intro w hSw; (try dsimp only at hSw); go_simp; try with_reducible rfl)
        simp only [Act.put, List.setIfInBounds_toArray, List.set_cons_zero, List.set_cons_succ]
        refine take_yes 13 20 (v := ?_) rfl rfl (by kernel_rfl) (by kernel_rfl) (by kernel_rfl) (fun _ _ _ h => h) (by rfl) ?_ hHeld ?_
        rotate_left
        · (intro w hSw; (try dsimp only at hSw); go_simp; try with_reducible rfl)
        simp only [Act.put, List.setIfInBounds_toArray, List.set_cons_zero, List.set_cons_succ]
        refine wpAnyH_done (by kernel_rfl) ?_ _
        go_wp2_with fail
        refine wp_region_held_drew (S := (fun w' => Gr wr w' ∧ w'.cell? ⟨b, off + p * 2, none⟩ = some (.string y.nm) ∧ w'.cell? ⟨w.heap.size, 0, none⟩ = some (.string xn))) (by kernel_rfl) (by exact hold2 (by (repeat' (first | with_reducible exact Gr.refl _ | with_reducible refine Gr.set ?_ _ ?_ _ | with_reducible refine Gr.alloc ?_ | with_reducible refine Gr.drew ?_ | with_reducible refine Gr.trans ?_ (by assumption))) <;> (first | (simp; done) | (simp; omega) | omega)) d0 c0) (fun hHeld => ?_)
        refine take_yes 0 23 (v := ?_) rfl rfl (by kernel_rfl) (by kernel_rfl) (by kernel_rfl) (fun _ _ _ h => h) (by rfl) ?_ hHeld ?_
        rotate_left
        · (intro w hSw; (try dsimp only at hSw); go_simp; try with_reducible rfl)
        simp only [Act.put, List.setIfInBounds_toArray, List.set_cons_zero, List.set_cons_succ]
        refine take_yes 1 24 (v := ?_) rfl rfl (by kernel_rfl) (by kernel_rfl) (by kernel_rfl) (fun _ _ _ h => h) (by rfl) ?_ hHeld ?_
        rotate_left
        · (intro w hSw; (try dsimp only at hSw); go_simp; try with_reducible rfl)
        simp only [Act.put, List.setIfInBounds_toArray, List.set_cons_zero, List.set_cons_succ]
        refine take_yes 2 25 (v := ?_) rfl rfl (by kernel_rfl) (by kernel_rfl) (by kernel_rfl) (fun _ _ _ h => h) (by rfl) ?_ hHeld ?_
        rotate_left
        · (intro w hSw; (try dsimp only at hSw); go_simp; try with_reducible rfl)
        simp only [Act.put, List.setIfInBounds_toArray, List.set_cons_zero, List.set_cons_succ]
        refine take_yes 3 26 (v := ?_) rfl rfl (by kernel_rfl) (by kernel_rfl) (by kernel_rfl) (fun _ _ _ h => h) (by rfl) ?_ hHeld ?_
        rotate_left
        · (intro w hSw; (try dsimp only at hSw); go_simp; try with_reducible rfl)
        simp only [Act.put, List.setIfInBounds_toArray, List.set_cons_zero, List.set_cons_succ]
        refine take_yes 4 27 (v := ?_) rfl rfl (by kernel_rfl) (by kernel_rfl) (by kernel_rfl) (fun _ _ _ h => h) (by rfl) ?_ hHeld ?_
        rotate_left
        · (intro w hSw; (try dsimp only at hSw); go_simp; try with_reducible rfl)
        simp only [Act.put, List.setIfInBounds_toArray, List.set_cons_zero, List.set_cons_succ]
        refine take_yes 5 28 (v := ?_) rfl rfl (by kernel_rfl) (by kernel_rfl) (by kernel_rfl) (fun _ _ _ h => h) (by rfl) ?_ hHeld ?_
        rotate_left
        · (intro w hSw; (try dsimp only at hSw); go_simp; try with_reducible rfl)
        simp only [Act.put, List.setIfInBounds_toArray, List.set_cons_zero, List.set_cons_succ]
        refine take_yes 6 29 (v := ?_) rfl rfl (by kernel_rfl) (by kernel_rfl) (by kernel_rfl) (fun _ _ _ h => h) (by rfl) ?_ hHeld ?_
        rotate_left
        · (intro w hSw; (try dsimp only at hSw); go_simp; try with_reducible rfl)
        simp only [Act.put, List.setIfInBounds_toArray, List.set_cons_zero, List.set_cons_succ]
        refine take_yes 7 30 (v := ?_) rfl rfl (by kernel_rfl) (by kernel_rfl) (by kernel_rfl) (fun _ _ _ h => h) (by rfl) ?_ hHeld ?_
        rotate_left
        · (intro w hSw; (try dsimp only at hSw); go_simp; try with_reducible rfl)
        simp only [Act.put, List.setIfInBounds_toArray, List.set_cons_zero, List.set_cons_succ]
        refine take_yes 8 31 (v := ?_) rfl rfl (by kernel_rfl) (by kernel_rfl) (by kernel_rfl) (fun _ _ _ h => h) (by rfl) ?_ hHeld ?_
        rotate_left
        · (intro w hSw; (try dsimp only at hSw); go_simp; try with_reducible rfl)
        simp only [Act.put, List.setIfInBounds_toArray, List.set_cons_zero, List.set_cons_succ]
        refine take_yes 9 32 (v := ?_) rfl rfl (by kernel_rfl) (by kernel_rfl) (by kernel_rfl) (fun _ _ _ h => h) (by rfl) ?_ hHeld ?_
        rotate_left
        · (intro w hSw; (try dsimp only at hSw); go_simp; try with_reducible rfl)
        simp only [Act.put, List.setIfInBounds_toArray, List.set_cons_zero, List.set_cons_succ]
        refine take_yes 10 33 (v := ?_) rfl rfl (by kernel_rfl) (by kernel_rfl) (by kernel_rfl) (fun _ _ _ h => h) (by rfl) ?_ hHeld ?_
        rotate_left
        · (intro w hSw; (try dsimp only at hSw); go_simp; try with_reducible rfl)
        simp only [Act.put, List.setIfInBounds_toArray, List.set_cons_zero, List.set_cons_succ]
        refine take_yes 11 34 (v := ?_) rfl rfl (by kernel_rfl) (by kernel_rfl) (by kernel_rfl) (fun _ _ _ h => h) (by rfl) ?_ hHeld ?_
        rotate_left
        · (intro w hSw; (try dsimp only at hSw); go_simp; try with_reducible rfl)
        simp only [Act.put, List.setIfInBounds_toArray, List.set_cons_zero, List.set_cons_succ]
        refine take_yes 12 35 (v := ?_) rfl rfl (by kernel_rfl) (by kernel_rfl) (by kernel_rfl) (fun _ _ _ h => h) (by rfl) ?_ hHeld ?_
        rotate_left
        · (intro w hSw; (try dsimp only at hSw); go_simp; try with_reducible rfl)
        simp only [Act.put, List.setIfInBounds_toArray, List.set_cons_zero, List.set_cons_succ]
        refine take_yes 13 36 (v := ?_) rfl rfl (by kernel_rfl) (by kernel_rfl) (by kernel_rfl) (fun _ _ _ h => h) (by rfl) ?_ hHeld ?_
        rotate_left
        · (intro w hSw; (try dsimp only at hSw); go_simp; try with_reducible rfl)
        simp only [Act.put, List.setIfInBounds_toArray, List.set_cons_zero, List.set_cons_succ]
        refine wpAnyH_done (by kernel_rfl) ?_ _
        cases hb with
        | true =>
          have HP : Hid (Bk.putE (dns D) (⟨xn, xa, xc, xl⟩ : Dm).dn = 71) := by show _ = _; rw [HE.out]; rfl
          have HGT : Hid (Gr w wr) := HGW.out.trans HG.out
          go_wp2
          go_ret2
          exact Or.inl ⟨by rw [HP.out]; decide, by (rw [HP.out]) <;> rfl, HGT.out.trans (by (repeat' (first | with_reducible exact Gr.refl _ | with_reducible refine Gr.set ?_ _ ?_ _ | with_reducible refine Gr.alloc ?_ | with_reducible refine Gr.drew ?_ | with_reducible refine Gr.trans ?_ (by assumption))) <;> (first | (simp; done) | (simp; omega) | omega))⟩
        | false =>
          have HGT : Hid (Gr w wr.drew.drew) := (HGW.out.trans HG.out).drew.drew
          by_cases h8 : 8 ≤ D.length
          · have HP3 : Hid (Bk.putE (dns D) (⟨xn, xa, xc, xl⟩ : Dm).dn = 3) := by show _ = _; rw [HE.out, if_neg (by decide), if_pos h8]
            obtain e8 : D.length = 8 := by omega
            have h8i : ((D.length : Int) == 8) = true := by rw [e8]; rfl
            clear e8 h8
            go_wp2
            go_ret2
            exact Or.inl ⟨by rw [HP3.out]; decide, by (rw [HP3.out]) <;> rfl, HGT.out⟩
          · have HP0 : Hid (Bk.putE (dns D) (⟨xn, xa, xc, xl⟩ : Dm).dn = 0) := by show _ = _; rw [HE.out, if_neg (by decide), if_neg h8]
            have h8i : ((D.length : Int) == 8) = false := by rw [beq_eq_false_iff_ne]; omega
            clear h8
            have ht1 : (D.take p).length = p := by rw [List.length_take]; omega
            have hd1 : (D.drop p).length = D.length - p := List.length_drop
            have hs1 : [(⟨xn, xa, xc, xl⟩ : Dm)].length = 1 := rfl
            have hn1 : ((some ⟨b, off, none⟩) : Option Addr) = none → cap = 0 := fun e => by cases e
            have hn3 : ((some ⟨b, off + p * 2, none⟩) : Option Addr) = none → (cap - p) = 0 := fun e => by cases e
            obtain ⟨V0, hV0⟩ : ∃ V0, V0 = wr.drew.drew := ⟨_, rfl⟩
            have HBV := Lib.hid (HB.out.gr (HGT.out))
            have HSV := Lib.hid (HS.out.gr (HGT.out))
            have c0 : (wr.drew.drew).cell? ⟨w.heap.size, 0, none⟩ = some (.string xn) := c0
            have c1 : (wr.drew.drew).cell? ⟨w.heap.size, 1, none⟩ = some (.slice xa xl.length xc) := c1
            rw [← hV0] at HGT HBV HSV c0 c1 ⊢
            clear hV0 HX0 HG HGW HHas HHasN HPos
            have R1 : RowAt dmC V0 (some ⟨b, off, none⟩) (D.take p) := row_take dmC_len HBV.out.row p hpl
            have R3 : RowAt dmC V0 (some ⟨b, off + p * 2, none⟩) (D.drop p) := by have := row_drop dmC_len HBV.out.row p hpl; rwa [Addr.add_lit] at this
            have HFin : Hid (∀ v3 U3, World.ownsRow U3 V0.heap.size 38 2 v3 (0 + (D.take p).length + [(⟨xn, xa, xc, xl⟩ : Dm)].length + (D.drop p).length) ([] ++ (D.take p).flatMap dmC ++ [(⟨xn, xa, xc, xl⟩ : Dm)].flatMap dmC ++ (D.drop p).flatMap dmC) → Gr V0 U3 → ∃ a c D', v3 = .slice a D'.length c ∧ BkAt U3 a D' ∧ (a = none → c = 0) ∧ D'.length ≤ c ∧ c ≤ 9223372036854775807 ∧ dns D' = Bk.ins (dns D) (⟨xn, xa, xc, xl⟩ : Dm).dn ∧ (∀ d ∈ D', d ∈ D ∨ d = ⟨xn, xa, xc, xl⟩) ∧ (∀ p, a = some p → w.heap.size ≤ p.block) ∧ Gr w U3) := by
              intro v3 U3 ho g
              have ho2 : World.ownsRow U3 V0.heap.size 38 2 v3 (D.take p ++ [(⟨xn, xa, xc, xl⟩ : Dm)] ++ D.drop p).length ((D.take p ++ [(⟨xn, xa, xc, xl⟩ : Dm)] ++ D.drop p).flatMap dmC) := by
                rw [List.flatMap_append, List.flatMap_append, List.length_append, List.length_append]
                rw [List.nil_append, Nat.zero_add] at ho
                exact ho
              obtain ⟨a', c', e', hl', hc', row', hbs, hno⟩ := own_row ho2
              have hmem : ∀ d ∈ D.take p ++ [(⟨xn, xa, xc, xl⟩ : Dm)] ++ D.drop p, d ∈ D ∨ d = ⟨xn, xa, xc, xl⟩ := by
                intro d hd
                rcases List.mem_append.1 hd with hd | hd
                · rcases List.mem_append.1 hd with hd | hd
                  · exact Or.inl (List.mem_of_mem_take hd)
                  · exact Or.inr (List.mem_singleton.1 hd)
                · exact Or.inl (List.mem_of_mem_drop hd)
              refine ⟨a', c', _, e', ⟨row', fun d hd => ?_, fun d hd => ?_⟩, hno, hl', hc', HIns.out, hmem, fun q e => Nat.le_trans HGT.out.size (hbs q e), HGT.out.trans g⟩
              · rcases List.mem_append.1 hd with hd | hd
                · rcases List.mem_append.1 hd with hd | hd
                  · exact (HBV.out.st d (List.mem_of_mem_take hd)).gr g
                  · rw [List.mem_singleton] at hd; subst hd; exact HSV.out.gr g
                · exact (HBV.out.st d (List.mem_of_mem_drop hd)).gr g
              · rcases List.mem_append.1 hd with hd | hd
                · rcases List.mem_append.1 hd with hd | hd
                  · exact HBV.out.rng d (List.mem_of_mem_take hd)
                  · rw [List.mem_singleton] at hd; subst hd; exact HXi.out
                · exact HBV.out.rng d (List.mem_of_mem_drop hd)
            have hcp : ¬ cap = p := by omega
            have hpi : (p : Int) ≤ (cap : Int) := by omega
            have hpi2 : (p : Int) ≤ (D.length : Int) := by omega
            go_wp2_with fail
            have G0 : Gr V0 V0.drew := (Gr.refl V0).drew
            refine wp_region_held_drew (S := (fun w' => Gr V0 w' ∧ w'.cell? ⟨w.heap.size, 0, none⟩ = some (.string xn) ∧ w'.cell? ⟨w.heap.size, 1, none⟩ = some (.slice xa xl.length xc))) (by kernel_rfl) (by first | exact hold2 G0 c0 c1 | exact hold2 G1 c0 c1 | exact hold2 G2 c0 c1 | exact hold2 G3 c0 c1 | exact hold2 G4 c0 c1 | exact hold2 G5 c0 c1) (fun hHeld => ?_)
            refine take_yes 1 41 (v := ?_) rfl rfl (by kernel_rfl) (by kernel_rfl) (by kernel_rfl) (fun _ _ _ h => h) (by rfl) ?_ hHeld ?_
            rotate_left
            · (intro w hSw; (try dsimp only at hSw); go_simp; try with_reducible rfl)
            simp only [Act.put, List.setIfInBounds_toArray, List.set_cons_zero, List.set_cons_succ]
            refine take_yes 2 42 (v := ?_) rfl rfl (by kernel_rfl) (by kernel_rfl) (by kernel_rfl) (fun _ _ _ h => h) (by rfl) ?_ hHeld ?_
            rotate_left
            · (intro w hSw; (try dsimp only at hSw); go_simp; try with_reducible rfl)
            simp only [Act.put, List.setIfInBounds_toArray, List.set_cons_zero, List.set_cons_succ]
            refine take_yes 3 43 (v := ?_) rfl rfl (by kernel_rfl) (by kernel_rfl) (by kernel_rfl) (fun _ _ _ h => h) (by rfl) ?_ hHeld ?_
            rotate_left
            · (intro w hSw; (try dsimp only at hSw); go_simp; try with_reducible rfl)
            simp only [Act.put, List.setIfInBounds_toArray, List.set_cons_zero, List.set_cons_succ]
            refine take_yes 5 45 (v := ?_) rfl rfl (by kernel_rfl) (by kernel_rfl) (by kernel_rfl) (fun _ _ _ h => h) (by rfl) ?_ hHeld ?_
            rotate_left
            · (intro w hSw; (try dsimp only at hSw); go_simp; try with_reducible rfl)
            simp only [Act.put, List.setIfInBounds_toArray, List.set_cons_zero, List.set_cons_succ]
            refine take_yes 8 48 (v := ?_) rfl rfl (by kernel_rfl) (by kernel_rfl) (by kernel_rfl) (fun _ _ _ h => h) (by rfl) ?_ hHeld ?_
            rotate_left
            · (intro w hSw; (try dsimp only at hSw); go_simp; try with_reducible rfl)
            simp only [Act.put, List.setIfInBounds_toArray, List.set_cons_zero, List.set_cons_succ]
            refine take_yes 9 49 (v := ?_) rfl rfl (by kernel_rfl) (by kernel_rfl) (by kernel_rfl) (fun _ _ _ h => h) (by rfl) ?_ hHeld ?_
            rotate_left
            · (intro w hSw; (try dsimp only at hSw); go_simp; try with_reducible rfl)
            simp only [Act.put, List.setIfInBounds_toArray, List.set_cons_zero, List.set_cons_succ]
            refine take_yes 10 50 (v := ?_) rfl rfl (by kernel_rfl) (by kernel_rfl) (by kernel_rfl) (fun _ _ _ h => h) (by rfl) ?_ hHeld ?_
            rotate_left
            · (intro w hSw; (try dsimp only at hSw); go_simp; try with_reducible rfl)
            simp only [Act.put, List.setIfInBounds_toArray, List.set_cons_zero, List.set_cons_succ]
            refine wpAnyH_ready (rs := [0, 6]) (by kernel_rfl) (by simp) (AllReadyH.cons rfl (fun K hK => ?_) (AllReadyH.cons rfl (fun K hK => ?_) AllReadyH.nil))
            · have G1 : Gr V0 (V0.drew.alloc (.cells #[] 38)) := G0.alloc
              have own0 : World.ownsRow (V0.drew.alloc (.cells #[] 38)) V0.heap.size 38 2 (.slice (some ⟨V0.heap.size, 0, none⟩) 0 0) 0 [] := World.ownsRow_lit V0.drew #[] 0 G0.size (by unfold maxLen; omega) rfl
              go_simp
              refine hK.out _ _ (by first | exact hold2 G0 c0 c1 | exact hold2 G1 c0 c1 | exact hold2 G2 c0 c1 | exact hold2 G3 c0 c1 | exact hold2 G4 c0 c1 | exact hold2 G5 c0 c1) (fun hHeldN => ?_)
              clear hHeld hK K
              have hHeld := hHeldN
              clear hHeldN
              refine wpAnyH_ready (rs := [4, 6]) (by kernel_rfl) (by simp) (AllReadyH.cons rfl (fun K hK => ?_) (AllReadyH.cons rfl (fun K hK => ?_) AllReadyH.nil))
              · skip
                refine step_append_row (by rfl) _ _ 22 (by rfl) V0.heap.size 38 i0 (.agg #[.string ⟨#[]⟩, .slice none 0 0]) 2 40 Tryz.underlying22 hi0 hz0 hz1 hz2 rfl (by decide) (.slice (some ⟨V0.heap.size, 0, none⟩) 0 0) 0 [] (by rfl) own0 dmC_len (D.take p) (some ⟨b, off, none⟩) cap (by first | rfl | (rw [ht1]; rfl) | (rw [hd1]; rfl)) hn1 (R1.gr G1) (dm_one _) (by unfold maxLen; omega) (by omega) G1.size ?_; intro v1 U1 own1 gr1; have G2 : Gr V0 U1 := G1.grown gr1 (fun b e => (own0.lt b e).1)
                refine hK.out (Act.put _ (some 44) v1) _ (by first | exact hold2 G0 c0 c1 | exact hold2 G1 c0 c1 | exact hold2 G2 c0 c1 | exact hold2 G3 c0 c1 | exact hold2 G4 c0 c1 | exact hold2 G5 c0 c1) (fun hHeldN => ?_)
                clear hHeld hK K
                have hHeld := hHeldN
                clear hHeldN
                simp only [Act.put, List.setIfInBounds_toArray, List.set_cons_zero, List.set_cons_succ]
                have G3 : Gr V0 (U1.alloc (.cells #[.string xn, .slice xa xl.length xc] 38)) := G2.alloc
                have rx : RowAt dmC (U1.alloc (.cells #[.string xn, .slice xa xl.length xc] 38)) (some ⟨U1.heap.size, 0, none⟩) [(⟨xn, xa, xc, xl⟩ : Dm)] := row_new _ _ _ _ _ _
                have own1b := own_gr2 own1 ((Gr.refl U1).alloc (o := (.cells #[.string xn, .slice xa xl.length xc] 38)))
                refine wpAnyH_ready (rs := [6]) (by kernel_rfl) (by simp) (AllReadyH.cons rfl (fun K hK => ?_) AllReadyH.nil)
                go_simp
                refine hK.out _ _ (by first | exact hold2 G0 c0 c1 | exact hold2 G1 c0 c1 | exact hold2 G2 c0 c1 | exact hold2 G3 c0 c1 | exact hold2 G4 c0 c1 | exact hold2 G5 c0 c1) (fun hHeldN => ?_)
                clear hHeld hK K
                have hHeld := hHeldN
                clear hHeldN
                refine wpAnyH_ready (rs := [7]) (by kernel_rfl) (by simp) (AllReadyH.cons rfl (fun K hK => ?_) AllReadyH.nil)
                refine step_append_row (by rfl) _ _ 22 (by rfl) V0.heap.size 38 i0 (.agg #[.string ⟨#[]⟩, .slice none 0 0]) 2 40 Tryz.underlying22 hi0 hz0 hz1 hz2 rfl (by decide) v1 (0 + (D.take p).length) ([] ++ (D.take p).flatMap dmC) (by rfl) own1b dmC_len [(⟨xn, xa, xc, xl⟩ : Dm)] (some ⟨U1.heap.size, 0, none⟩) 1 (by first | rfl | (rw [ht1]; rfl) | (rw [hd1]; rfl)) (fun e => by cases e) rx (dm_one _) (by unfold maxLen; omega) (by omega) G3.size ?_; intro v2 U2 own2 gr2; have G4 : Gr V0 U2 := G3.grown gr2 (fun b e => (own1b.lt b e).1)
                refine hK.out (Act.put _ (some 47) v2) _ (by first | exact hold2 G0 c0 c1 | exact hold2 G1 c0 c1 | exact hold2 G2 c0 c1 | exact hold2 G3 c0 c1 | exact hold2 G4 c0 c1 | exact hold2 G5 c0 c1) (fun hHeldN => ?_)
                clear hHeld hK K
                have hHeld := hHeldN
                clear hHeldN
                simp only [Act.put, List.setIfInBounds_toArray, List.set_cons_zero, List.set_cons_succ]
                refine wpAnyH_ready (rs := [11]) (by kernel_rfl) (by simp) (AllReadyH.cons rfl (fun K hK => ?_) AllReadyH.nil)
                refine step_append_row (by rfl) _ _ 22 (by rfl) V0.heap.size 38 i0 (.agg #[.string ⟨#[]⟩, .slice none 0 0]) 2 40 Tryz.underlying22 hi0 hz0 hz1 hz2 rfl (by decide) v2 (0 + (D.take p).length + [(⟨xn, xa, xc, xl⟩ : Dm)].length) ([] ++ (D.take p).flatMap dmC ++ [(⟨xn, xa, xc, xl⟩ : Dm)].flatMap dmC) (by rfl) own2 dmC_len (D.drop p) (some ⟨b, off + p * 2, none⟩) (cap - p) (by first | rfl | (rw [ht1]; rfl) | (rw [hd1]; rfl)) hn3 (R3.gr G4) (dm_one _) (by unfold maxLen; omega) (by omega) G4.size ?_; intro v3 U3 own3 gr3; have G5 : Gr V0 U3 := G4.grown gr3 (fun b e => (own2.lt b e).1)
                refine hK.out (Act.put _ (some 51) v3) _ (by first | exact hold2 G0 c0 c1 | exact hold2 G1 c0 c1 | exact hold2 G2 c0 c1 | exact hold2 G3 c0 c1 | exact hold2 G4 c0 c1 | exact hold2 G5 c0 c1) (fun hHeldN => ?_)
                clear hHeld hK K
                have hHeld := hHeldN
                clear hHeldN
                simp only [Act.put, List.setIfInBounds_toArray, List.set_cons_zero, List.set_cons_succ]
                refine take_yes 12 4 (v := ?_) rfl rfl (by kernel_rfl) (by kernel_rfl) (by kernel_rfl) (fun _ _ _ h => h) (by rfl) ?_ hHeld ?_
                rotate_left
                · (intro w hSw; (try dsimp only at hSw); go_simp; try with_reducible rfl)
                simp only [Act.put, List.setIfInBounds_toArray, List.set_cons_zero, List.set_cons_succ]
                refine take_yes 13 5 (v := ?_) rfl rfl (by kernel_rfl) (by kernel_rfl) (by kernel_rfl) (fun _ _ _ h => h) (by rfl) ?_ hHeld ?_
                rotate_left
                · (intro w hSw; (try dsimp only at hSw); go_simp; try with_reducible rfl)
                simp only [Act.put, List.setIfInBounds_toArray, List.set_cons_zero, List.set_cons_succ]
                refine wpAnyH_done (by kernel_rfl) ?_ _
                obtain ⟨a5, q5, D5, e5, b5, n5, l5, m5, i5, j5, k5, g5⟩ := HFin.out _ _ own3 G5
                subst e5
                have HF5 := Lib.hid b5
                have HI5 := Lib.hid i5
                have HJ5 := Lib.hid j5
                have HK5 := Lib.hid k5
                have HG5 := Lib.hid g5
                clear b5 i5 j5 k5 g5 own3 HFin
                go_wp2
                go_ret2
                exact Or.inr ⟨HP0.out, a5, q5, D5, rfl, HF5.out, n5, l5, m5, HI5.out, HJ5.out, HK5.out, HG5.out⟩
              · have G2 : Gr V0 ((V0.drew.alloc (.cells #[] 38)).alloc (.cells #[.string xn, .slice xa xl.length xc] 38)) := G1.alloc
                have rx : RowAt dmC ((V0.drew.alloc (.cells #[] 38)).alloc (.cells #[.string xn, .slice xa xl.length xc] 38)) (some ⟨V0.heap.size + 1, 0, none⟩) [(⟨xn, xa, xc, xl⟩ : Dm)] := by have := row_new (V0.drew.alloc (.cells #[] 38)) xn xa xc xl 38; simpa using this
                have own0b := own_gr2 own0 ((Gr.refl (V0.drew.alloc (.cells #[] 38))).alloc (o := (.cells #[.string xn, .slice xa xl.length xc] 38)))
                go_simp
                refine hK.out _ _ (by first | exact hold2 G0 c0 c1 | exact hold2 G1 c0 c1 | exact hold2 G2 c0 c1 | exact hold2 G3 c0 c1 | exact hold2 G4 c0 c1 | exact hold2 G5 c0 c1) (fun hHeldN => ?_)
                clear hHeld hK K
                have hHeld := hHeldN
                clear hHeldN
                refine wpAnyH_ready (rs := [4]) (by kernel_rfl) (by simp) (AllReadyH.cons rfl (fun K hK => ?_) AllReadyH.nil)
                refine step_append_row (by rfl) _ _ 22 (by rfl) V0.heap.size 38 i0 (.agg #[.string ⟨#[]⟩, .slice none 0 0]) 2 40 Tryz.underlying22 hi0 hz0 hz1 hz2 rfl (by decide) (.slice (some ⟨V0.heap.size, 0, none⟩) 0 0) 0 [] (by rfl) own0b dmC_len (D.take p) (some ⟨b, off, none⟩) cap (by first | rfl | (rw [ht1]; rfl) | (rw [hd1]; rfl)) hn1 (R1.gr G2) (dm_one _) (by unfold maxLen; omega) (by omega) G2.size ?_; intro v1 U1 own1 gr1; have G3 : Gr V0 U1 := G2.grown gr1 (fun b e => (own0b.lt b e).1)
                refine hK.out (Act.put _ (some 44) v1) _ (by first | exact hold2 G0 c0 c1 | exact hold2 G1 c0 c1 | exact hold2 G2 c0 c1 | exact hold2 G3 c0 c1 | exact hold2 G4 c0 c1 | exact hold2 G5 c0 c1) (fun hHeldN => ?_)
                clear hHeld hK K
                have hHeld := hHeldN
                clear hHeldN
                simp only [Act.put, List.setIfInBounds_toArray, List.set_cons_zero, List.set_cons_succ]
                have rxb : RowAt dmC U1 (some ⟨V0.heap.size + 1, 0, none⟩) [(⟨xn, xa, xc, xl⟩ : Dm)] := row_grown rx gr1 (fun a e => by cases e; simp [Value.ownBlock])
                refine wpAnyH_ready (rs := [7]) (by kernel_rfl) (by simp) (AllReadyH.cons rfl (fun K hK => ?_) AllReadyH.nil)
                refine step_append_row (by rfl) _ _ 22 (by rfl) V0.heap.size 38 i0 (.agg #[.string ⟨#[]⟩, .slice none 0 0]) 2 40 Tryz.underlying22 hi0 hz0 hz1 hz2 rfl (by decide) v1 (0 + (D.take p).length) ([] ++ (D.take p).flatMap dmC) (by rfl) own1 dmC_len [(⟨xn, xa, xc, xl⟩ : Dm)] (some ⟨V0.heap.size + 1, 0, none⟩) 1 (by first | rfl | (rw [ht1]; rfl) | (rw [hd1]; rfl)) (fun e => by cases e) rxb (dm_one _) (by unfold maxLen; omega) (by omega) G3.size ?_; intro v2 U2 own2 gr2; have G4 : Gr V0 U2 := G3.grown gr2 (fun b e => (own1.lt b e).1)
                refine hK.out (Act.put _ (some 47) v2) _ (by first | exact hold2 G0 c0 c1 | exact hold2 G1 c0 c1 | exact hold2 G2 c0 c1 | exact hold2 G3 c0 c1 | exact hold2 G4 c0 c1 | exact hold2 G5 c0 c1) (fun hHeldN => ?_)
                clear hHeld hK K
                have hHeld := hHeldN
                clear hHeldN
                simp only [Act.put, List.setIfInBounds_toArray, List.set_cons_zero, List.set_cons_succ]
                refine wpAnyH_ready (rs := [11]) (by kernel_rfl) (by simp) (AllReadyH.cons rfl (fun K hK => ?_) AllReadyH.nil)
                refine step_append_row (by rfl) _ _ 22 (by rfl) V0.heap.size 38 i0 (.agg #[.string ⟨#[]⟩, .slice none 0 0]) 2 40 Tryz.underlying22 hi0 hz0 hz1 hz2 rfl (by decide) v2 (0 + (D.take p).length + [(⟨xn, xa, xc, xl⟩ : Dm)].length) ([] ++ (D.take p).flatMap dmC ++ [(⟨xn, xa, xc, xl⟩ : Dm)].flatMap dmC) (by rfl) own2 dmC_len (D.drop p) (some ⟨b, off + p * 2, none⟩) (cap - p) (by first | rfl | (rw [ht1]; rfl) | (rw [hd1]; rfl)) hn3 (R3.gr G4) (dm_one _) (by unfold maxLen; omega) (by omega) G4.size ?_; intro v3 U3 own3 gr3; have G5 : Gr V0 U3 := G4.grown gr3 (fun b e => (own2.lt b e).1)
                refine hK.out (Act.put _ (some 51) v3) _ (by first | exact hold2 G0 c0 c1 | exact hold2 G1 c0 c1 | exact hold2 G2 c0 c1 | exact hold2 G3 c0 c1 | exact hold2 G4 c0 c1 | exact hold2 G5 c0 c1) (fun hHeldN => ?_)
                clear hHeld hK K
                have hHeld := hHeldN
                clear hHeldN
                simp only [Act.put, List.setIfInBounds_toArray, List.set_cons_zero, List.set_cons_succ]
                refine take_yes 12 4 (v := ?_) rfl rfl (by kernel_rfl) (by kernel_rfl) (by kernel_rfl) (fun _ _ _ h => h) (by rfl) ?_ hHeld ?_
                rotate_left
                · (intro w hSw; (try dsimp only at hSw); go_simp; try with_reducible rfl)
                simp only [Act.put, List.setIfInBounds_toArray, List.set_cons_zero, List.set_cons_succ]
                refine take_yes 13 5 (v := ?_) rfl rfl (by kernel_rfl) (by kernel_rfl) (by kernel_rfl) (fun _ _ _ h => h) (by rfl) ?_ hHeld ?_
                rotate_left
                · (intro w hSw; (try dsimp only at hSw); go_simp; try with_reducible rfl)
                simp only [Act.put, List.setIfInBounds_toArray, List.set_cons_zero, List.set_cons_succ]
                refine wpAnyH_done (by kernel_rfl) ?_ _
                obtain ⟨a5, q5, D5, e5, b5, n5, l5, m5, i5, j5, k5, g5⟩ := HFin.out _ _ own3 G5
                subst e5
                have HF5 := Lib.hid b5
                have HI5 := Lib.hid i5
                have HJ5 := Lib.hid j5
                have HK5 := Lib.hid k5
                have HG5 := Lib.hid g5
                clear b5 i5 j5 k5 g5 own3 HFin
                go_wp2
                go_ret2
                exact Or.inr ⟨HP0.out, a5, q5, D5, rfl, HF5.out, n5, l5, m5, HI5.out, HJ5.out, HK5.out, HG5.out⟩
            · have G1 : Gr V0 (V0.drew.alloc (.cells #[.string xn, .slice xa xl.length xc] 38)) := G0.alloc
              have rx : RowAt dmC (V0.drew.alloc (.cells #[.string xn, .slice xa xl.length xc] 38)) (some ⟨V0.heap.size, 0, none⟩) [(⟨xn, xa, xc, xl⟩ : Dm)] := row_new V0.drew xn xa xc xl 38
              go_simp
              refine hK.out _ _ (by first | exact hold2 G0 c0 c1 | exact hold2 G1 c0 c1 | exact hold2 G2 c0 c1 | exact hold2 G3 c0 c1 | exact hold2 G4 c0 c1 | exact hold2 G5 c0 c1) (fun hHeldN => ?_)
              clear hHeld hK K
              have hHeld := hHeldN
              clear hHeldN
              have G2 : Gr V0 ((V0.drew.alloc (.cells #[.string xn, .slice xa xl.length xc] 38)).alloc (.cells #[] 38)) := G1.alloc
              have own0 : World.ownsRow ((V0.drew.alloc (.cells #[.string xn, .slice xa xl.length xc] 38)).alloc (.cells #[] 38)) V0.heap.size 38 2 (.slice (some ⟨V0.heap.size + 1, 0, none⟩) 0 0) 0 [] := by have := World.ownsRow_lit (V0.drew.alloc (.cells #[.string xn, .slice xa xl.length xc] 38)) #[] 0 (base := V0.heap.size) (e := 38) (size := 2) G1.size (by unfold maxLen; omega) rfl; simpa using this
              have rx2 := rx.gr ((Gr.refl (V0.drew.alloc (.cells #[.string xn, .slice xa xl.length xc] 38))).alloc (o := .cells #[] 38))
              refine wpAnyH_ready (rs := [0]) (by kernel_rfl) (by simp) (AllReadyH.cons rfl (fun K hK => ?_) AllReadyH.nil)
              go_simp
              refine hK.out _ _ (by first | exact hold2 G0 c0 c1 | exact hold2 G1 c0 c1 | exact hold2 G2 c0 c1 | exact hold2 G3 c0 c1 | exact hold2 G4 c0 c1 | exact hold2 G5 c0 c1) (fun hHeldN => ?_)
              clear hHeld hK K
              have hHeld := hHeldN
              clear hHeldN
              refine wpAnyH_ready (rs := [4]) (by kernel_rfl) (by simp) (AllReadyH.cons rfl (fun K hK => ?_) AllReadyH.nil)
              refine step_append_row (by rfl) _ _ 22 (by rfl) V0.heap.size 38 i0 (.agg #[.string ⟨#[]⟩, .slice none 0 0]) 2 40 Tryz.underlying22 hi0 hz0 hz1 hz2 rfl (by decide) (.slice (some ⟨V0.heap.size + 1, 0, none⟩) 0 0) 0 [] (by rfl) own0 dmC_len (D.take p) (some ⟨b, off, none⟩) cap (by first | rfl | (rw [ht1]; rfl) | (rw [hd1]; rfl)) hn1 (R1.gr G2) (dm_one _) (by unfold maxLen; omega) (by omega) G2.size ?_; intro v1 U1 own1 gr1; have G3 : Gr V0 U1 := G2.grown gr1 (fun b e => (own0.lt b e).1)
              refine hK.out (Act.put _ (some 44) v1) _ (by first | exact hold2 G0 c0 c1 | exact hold2 G1 c0 c1 | exact hold2 G2 c0 c1 | exact hold2 G3 c0 c1 | exact hold2 G4 c0 c1 | exact hold2 G5 c0 c1) (fun hHeldN => ?_)
              clear hHeld hK K
              have hHeld := hHeldN
              clear hHeldN
              simp only [Act.put, List.setIfInBounds_toArray, List.set_cons_zero, List.set_cons_succ]
              have rxb : RowAt dmC U1 (some ⟨V0.heap.size, 0, none⟩) [(⟨xn, xa, xc, xl⟩ : Dm)] := row_grown rx2 gr1 (fun a e => by cases e; simp [Value.ownBlock])
              refine wpAnyH_ready (rs := [7]) (by kernel_rfl) (by simp) (AllReadyH.cons rfl (fun K hK => ?_) AllReadyH.nil)
              refine step_append_row (by rfl) _ _ 22 (by rfl) V0.heap.size 38 i0 (.agg #[.string ⟨#[]⟩, .slice none 0 0]) 2 40 Tryz.underlying22 hi0 hz0 hz1 hz2 rfl (by decide) v1 (0 + (D.take p).length) ([] ++ (D.take p).flatMap dmC) (by rfl) own1 dmC_len [(⟨xn, xa, xc, xl⟩ : Dm)] (some ⟨V0.heap.size, 0, none⟩) 1 (by first | rfl | (rw [ht1]; rfl) | (rw [hd1]; rfl)) (fun e => by cases e) rxb (dm_one _) (by unfold maxLen; omega) (by omega) G3.size ?_; intro v2 U2 own2 gr2; have G4 : Gr V0 U2 := G3.grown gr2 (fun b e => (own1.lt b e).1)
              refine hK.out (Act.put _ (some 47) v2) _ (by first | exact hold2 G0 c0 c1 | exact hold2 G1 c0 c1 | exact hold2 G2 c0 c1 | exact hold2 G3 c0 c1 | exact hold2 G4 c0 c1 | exact hold2 G5 c0 c1) (fun hHeldN => ?_)
              clear hHeld hK K
              have hHeld := hHeldN
              clear hHeldN
              simp only [Act.put, List.setIfInBounds_toArray, List.set_cons_zero, List.set_cons_succ]
              refine wpAnyH_ready (rs := [11]) (by kernel_rfl) (by simp) (AllReadyH.cons rfl (fun K hK => ?_) AllReadyH.nil)
              refine step_append_row (by rfl) _ _ 22 (by rfl) V0.heap.size 38 i0 (.agg #[.string ⟨#[]⟩, .slice none 0 0]) 2 40 Tryz.underlying22 hi0 hz0 hz1 hz2 rfl (by decide) v2 (0 + (D.take p).length + [(⟨xn, xa, xc, xl⟩ : Dm)].length) ([] ++ (D.take p).flatMap dmC ++ [(⟨xn, xa, xc, xl⟩ : Dm)].flatMap dmC) (by rfl) own2 dmC_len (D.drop p) (some ⟨b, off + p * 2, none⟩) (cap - p) (by first | rfl | (rw [ht1]; rfl) | (rw [hd1]; rfl)) hn3 (R3.gr G4) (dm_one _) (by unfold maxLen; omega) (by omega) G4.size ?_; intro v3 U3 own3 gr3; have G5 : Gr V0 U3 := G4.grown gr3 (fun b e => (own2.lt b e).1)
              refine hK.out (Act.put _ (some 51) v3) _ (by first | exact hold2 G0 c0 c1 | exact hold2 G1 c0 c1 | exact hold2 G2 c0 c1 | exact hold2 G3 c0 c1 | exact hold2 G4 c0 c1 | exact hold2 G5 c0 c1) (fun hHeldN => ?_)
              clear hHeld hK K
              have hHeld := hHeldN
              clear hHeldN
              simp only [Act.put, List.setIfInBounds_toArray, List.set_cons_zero, List.set_cons_succ]
              refine take_yes 12 4 (v := ?_) rfl rfl (by kernel_rfl) (by kernel_rfl) (by kernel_rfl) (fun _ _ _ h => h) (by rfl) ?_ hHeld ?_
              rotate_left
              · (intro w hSw; (try dsimp only at hSw); go_simp; try with_reducible rfl)
              simp only [Act.put, List.setIfInBounds_toArray, List.set_cons_zero, List.set_cons_succ]
              refine take_yes 13 5 (v := ?_) rfl rfl (by kernel_rfl) (by kernel_rfl) (by kernel_rfl) (fun _ _ _ h => h) (by rfl) ?_ hHeld ?_
              rotate_left
              · (intro w hSw; (try dsimp only at hSw); go_simp; try with_reducible rfl)
              simp only [Act.put, List.setIfInBounds_toArray, List.set_cons_zero, List.set_cons_succ]
              refine wpAnyH_done (by kernel_rfl) ?_ _
              obtain ⟨a5, q5, D5, e5, b5, n5, l5, m5, i5, j5, k5, g5⟩ := HFin.out _ _ own3 G5
              subst e5
              have HF5 := Lib.hid b5
              have HI5 := Lib.hid i5
              have HJ5 := Lib.hid j5
              have HK5 := Lib.hid k5
              have HG5 := Lib.hid g5
              clear b5 i5 j5 k5 g5 own3 HFin
              go_wp2
              go_ret2
              exact Or.inr ⟨HP0.out, a5, q5, D5, rfl, HF5.out, n5, l5, m5, HI5.out, HJ5.out, HK5.out, HG5.out⟩
      · have hge : ¬ ((p : Int) < (D.length : Int)) := by omega
        obtain rfl : hb = false := HHasN.out (by omega)
        have hpe : p = D.length := by omega
        have hnil : D.drop p = [] := List.drop_eq_nil_of_le (by omega)
        go_wp2_with fail
        refine wp_region_held_drew (S := (fun w' => Gr wr w')) (by kernel_rfl) (by exact (by (repeat' (first | with_reducible exact Gr.refl _ | with_reducible refine Gr.set ?_ _ ?_ _ | with_reducible refine Gr.alloc ?_ | with_reducible refine Gr.drew ?_ | with_reducible refine Gr.trans ?_ (by assumption))) <;> (first | (simp; done) | (simp; omega) | omega))) (fun hHeld => ?_)
        refine take_yes 0 7 (v := ?_) rfl rfl (by kernel_rfl) (by kernel_rfl) (by kernel_rfl) (fun _ _ _ h => h) (by rfl) ?_ hHeld ?_
        rotate_left
        · (intro w hSw; (try dsimp only at hSw); go_simp; try with_reducible rfl)
        simp only [Act.put, List.setIfInBounds_toArray, List.set_cons_zero, List.set_cons_succ]
        refine take_yes 1 8 (v := ?_) rfl rfl (by kernel_rfl) (by kernel_rfl) (by kernel_rfl) (fun _ _ _ h => h) (by rfl) ?_ hHeld ?_
        rotate_left
        · (intro w hSw; (try dsimp only at hSw); go_simp; try with_reducible rfl)
        simp only [Act.put, List.setIfInBounds_toArray, List.set_cons_zero, List.set_cons_succ]
        refine take_yes 2 9 (v := ?_) rfl rfl (by kernel_rfl) (by kernel_rfl) (by kernel_rfl) (fun _ _ _ h => h) (by rfl) ?_ hHeld ?_
        rotate_left
        · (intro w hSw; (try dsimp only at hSw); go_simp; try with_reducible rfl)
        simp only [Act.put, List.setIfInBounds_toArray, List.set_cons_zero, List.set_cons_succ]
        refine take_yes 3 10 (v := ?_) rfl rfl (by kernel_rfl) (by kernel_rfl) (by kernel_rfl) (fun _ _ _ h => h) (by rfl) ?_ hHeld ?_
        rotate_left
        · (intro w hSw; (try dsimp only at hSw); go_simp; try with_reducible rfl)
        simp only [Act.put, List.setIfInBounds_toArray, List.set_cons_zero, List.set_cons_succ]
        refine take_yes 4 11 (v := ?_) rfl rfl (by kernel_rfl) (by kernel_rfl) (by kernel_rfl) (fun _ _ _ h => h) (by rfl) ?_ hHeld ?_
        rotate_left
        · (intro w hSw; (try dsimp only at hSw); go_simp; try with_reducible rfl)
        simp only [Act.put, List.setIfInBounds_toArray, List.set_cons_zero, List.set_cons_succ]
        refine take_not 5 12 rfl rfl (by kernel_rfl) (by kernel_rfl) (by kernel_rfl) (fun _ _ _ h => h) (by rfl) hHeld ?_
        simp only [Act.put, List.setIfInBounds_toArray, List.set_cons_zero, List.set_cons_succ]
        refine take_not 6 13 rfl rfl (by kernel_rfl) (by kernel_rfl) (by kernel_rfl) (fun _ _ _ h => h) (by rfl) hHeld ?_
        simp only [Act.put, List.setIfInBounds_toArray, List.set_cons_zero, List.set_cons_succ]
        refine take_not 7 14 rfl rfl (by kernel_rfl) (by kernel_rfl) (by kernel_rfl) (fun _ _ _ h => h) (by rfl) hHeld ?_
        simp only [Act.put, List.setIfInBounds_toArray, List.set_cons_zero, List.set_cons_succ]
        refine take_not 8 15 rfl rfl (by kernel_rfl) (by kernel_rfl) (by kernel_rfl) (fun _ _ _ h => h) (by rfl) hHeld ?_
        simp only [Act.put, List.setIfInBounds_toArray, List.set_cons_zero, List.set_cons_succ]
        refine take_not 9 16 rfl rfl (by kernel_rfl) (by kernel_rfl) (by kernel_rfl) (fun _ _ _ h => h) (by rfl) hHeld ?_
        simp only [Act.put, List.setIfInBounds_toArray, List.set_cons_zero, List.set_cons_succ]
        refine take_not 10 17 rfl rfl (by kernel_rfl) (by kernel_rfl) (by kernel_rfl) (fun _ _ _ h => h) (by rfl) hHeld ?_
        simp only [Act.put, List.setIfInBounds_toArray, List.set_cons_zero, List.set_cons_succ]
        refine take_not 11 18 rfl rfl (by kernel_rfl) (by kernel_rfl) (by kernel_rfl) (fun _ _ _ h => h) (by rfl) hHeld ?_
        simp only [Act.put, List.setIfInBounds_toArray, List.set_cons_zero, List.set_cons_succ]
        refine take_not 12 19 rfl rfl (by kernel_rfl) (by kernel_rfl) (by kernel_rfl) (fun _ _ _ h => h) (by rfl) hHeld ?_
        simp only [Act.put, List.setIfInBounds_toArray, List.set_cons_zero, List.set_cons_succ]
        refine take_yes 13 20 (v := ?_) rfl rfl (by kernel_rfl) (by kernel_rfl) (by kernel_rfl) (fun _ _ _ h => h) (by rfl) ?_ hHeld ?_
        rotate_left
        · (intro w hSw; (try dsimp only at hSw); go_simp; try with_reducible rfl)
        simp only [Act.put, List.setIfInBounds_toArray, List.set_cons_zero, List.set_cons_succ]
        refine wpAnyH_done (by kernel_rfl) ?_ _
        go_wp2_with fail
        refine wp_region_held_drew (S := (fun w' => Gr wr w')) (by kernel_rfl) (by exact (by (repeat' (first | with_reducible exact Gr.refl _ | with_reducible refine Gr.set ?_ _ ?_ _ | with_reducible refine Gr.alloc ?_ | with_reducible refine Gr.drew ?_ | with_reducible refine Gr.trans ?_ (by assumption))) <;> (first | (simp; done) | (simp; omega) | omega))) (fun hHeld => ?_)
        refine take_yes 0 23 (v := ?_) rfl rfl (by kernel_rfl) (by kernel_rfl) (by kernel_rfl) (fun _ _ _ h => h) (by rfl) ?_ hHeld ?_
        rotate_left
        · (intro w hSw; (try dsimp only at hSw); go_simp; try with_reducible rfl)
        simp only [Act.put, List.setIfInBounds_toArray, List.set_cons_zero, List.set_cons_succ]
        refine take_yes 1 24 (v := ?_) rfl rfl (by kernel_rfl) (by kernel_rfl) (by kernel_rfl) (fun _ _ _ h => h) (by rfl) ?_ hHeld ?_
        rotate_left
        · (intro w hSw; (try dsimp only at hSw); go_simp; try with_reducible rfl)
        simp only [Act.put, List.setIfInBounds_toArray, List.set_cons_zero, List.set_cons_succ]
        refine take_yes 2 25 (v := ?_) rfl rfl (by kernel_rfl) (by kernel_rfl) (by kernel_rfl) (fun _ _ _ h => h) (by rfl) ?_ hHeld ?_
        rotate_left
        · (intro w hSw; (try dsimp only at hSw); go_simp; try with_reducible rfl)
        simp only [Act.put, List.setIfInBounds_toArray, List.set_cons_zero, List.set_cons_succ]
        refine take_yes 3 26 (v := ?_) rfl rfl (by kernel_rfl) (by kernel_rfl) (by kernel_rfl) (fun _ _ _ h => h) (by rfl) ?_ hHeld ?_
        rotate_left
        · (intro w hSw; (try dsimp only at hSw); go_simp; try with_reducible rfl)
        simp only [Act.put, List.setIfInBounds_toArray, List.set_cons_zero, List.set_cons_succ]
        refine take_yes 4 27 (v := ?_) rfl rfl (by kernel_rfl) (by kernel_rfl) (by kernel_rfl) (fun _ _ _ h => h) (by rfl) ?_ hHeld ?_
        rotate_left
        · (intro w hSw; (try dsimp only at hSw); go_simp; try with_reducible rfl)
        simp only [Act.put, List.setIfInBounds_toArray, List.set_cons_zero, List.set_cons_succ]
        refine take_not 5 28 rfl rfl (by kernel_rfl) (by kernel_rfl) (by kernel_rfl) (fun _ _ _ h => h) (by rfl) hHeld ?_
        simp only [Act.put, List.setIfInBounds_toArray, List.set_cons_zero, List.set_cons_succ]
        refine take_not 6 29 rfl rfl (by kernel_rfl) (by kernel_rfl) (by kernel_rfl) (fun _ _ _ h => h) (by rfl) hHeld ?_
        simp only [Act.put, List.setIfInBounds_toArray, List.set_cons_zero, List.set_cons_succ]
        refine take_not 7 30 rfl rfl (by kernel_rfl) (by kernel_rfl) (by kernel_rfl) (fun _ _ _ h => h) (by rfl) hHeld ?_
        simp only [Act.put, List.setIfInBounds_toArray, List.set_cons_zero, List.set_cons_succ]
        refine take_not 8 31 rfl rfl (by kernel_rfl) (by kernel_rfl) (by kernel_rfl) (fun _ _ _ h => h) (by rfl) hHeld ?_
        simp only [Act.put, List.setIfInBounds_toArray, List.set_cons_zero, List.set_cons_succ]
        refine take_not 9 32 rfl rfl (by kernel_rfl) (by kernel_rfl) (by kernel_rfl) (fun _ _ _ h => h) (by rfl) hHeld ?_
        simp only [Act.put, List.setIfInBounds_toArray, List.set_cons_zero, List.set_cons_succ]
        refine take_not 10 33 rfl rfl (by kernel_rfl) (by kernel_rfl) (by kernel_rfl) (fun _ _ _ h => h) (by rfl) hHeld ?_
        simp only [Act.put, List.setIfInBounds_toArray, List.set_cons_zero, List.set_cons_succ]
        refine take_not 11 34 rfl rfl (by kernel_rfl) (by kernel_rfl) (by kernel_rfl) (fun _ _ _ h => h) (by rfl) hHeld ?_
        simp only [Act.put, List.setIfInBounds_toArray, List.set_cons_zero, List.set_cons_succ]
        refine take_not 12 35 rfl rfl (by kernel_rfl) (by kernel_rfl) (by kernel_rfl) (fun _ _ _ h => h) (by rfl) hHeld ?_
        simp only [Act.put, List.setIfInBounds_toArray, List.set_cons_zero, List.set_cons_succ]
        refine take_yes 13 36 (v := ?_) rfl rfl (by kernel_rfl) (by kernel_rfl) (by kernel_rfl) (fun _ _ _ h => h) (by rfl) ?_ hHeld ?_
        rotate_left
        · (intro w hSw; (try dsimp only at hSw); go_simp; try with_reducible rfl)
        simp only [Act.put, List.setIfInBounds_toArray, List.set_cons_zero, List.set_cons_succ]
        refine wpAnyH_done (by kernel_rfl) ?_ _
        have HGT : Hid (Gr w wr.drew.drew) := (HGW.out.trans HG.out).drew.drew
        have hpi : (p : Int) ≤ (cap : Int) := by omega
        have hpi2 : (p : Int) ≤ (D.length : Int) := by omega
        cases ad with
        | none =>
          obtain rfl := hcap rfl
          have hD0 : D.length = 0 := by omega
          have hp0 : p = 0 := by omega
          have hDn : D = [] := List.length_eq_zero_iff.1 hD0
          have hp0i : (p : Int) = 0 := by omega
          clear hpe hge hpi hpi2
          by_cases h8 : 8 ≤ D.length
          · omega
          · have HP0 : Hid (Bk.putE (dns D) (⟨xn, xa, xc, xl⟩ : Dm).dn = 0) := by show _ = _; rw [HE.out, if_neg (by decide), if_neg h8]
            have h8i : ((D.length : Int) == 8) = false := by rw [beq_eq_false_iff_ne]; omega
            clear h8
            have ht1 : (D.take p).length = p := by rw [List.length_take]; omega
            have hd1 : (D.drop p).length = D.length - p := List.length_drop
            have hs1 : [(⟨xn, xa, xc, xl⟩ : Dm)].length = 1 := rfl
            obtain ⟨V0, hV0⟩ : ∃ V0, V0 = wr.drew.drew := ⟨_, rfl⟩
            have HBV := Lib.hid (HB.out.gr (HGT.out))
            have HSV := Lib.hid (HS.out.gr (HGT.out))
            have c0 : (wr.drew.drew).cell? ⟨w.heap.size, 0, none⟩ = some (.string xn) := c0
            have c1 : (wr.drew.drew).cell? ⟨w.heap.size, 1, none⟩ = some (.slice xa xl.length xc) := c1
            rw [← hV0] at HGT HBV HSV c0 c1 ⊢
            clear hV0 HX0 HG HGW HHas HHasN HPos
            have R1 : RowAt dmC V0 none (D.take p) := by rw [hDn, List.take_nil]; exact RowAt.nil
            have R3 : RowAt dmC V0 none (D.drop p) := by rw [hnil]; exact RowAt.nil
            have HFin : Hid (∀ v3 U3, World.ownsRow U3 V0.heap.size 38 2 v3 (0 + (D.take p).length + [(⟨xn, xa, xc, xl⟩ : Dm)].length + (D.drop p).length) ([] ++ (D.take p).flatMap dmC ++ [(⟨xn, xa, xc, xl⟩ : Dm)].flatMap dmC ++ (D.drop p).flatMap dmC) → Gr V0 U3 → ∃ a c D', v3 = .slice a D'.length c ∧ BkAt U3 a D' ∧ (a = none → c = 0) ∧ D'.length ≤ c ∧ c ≤ 9223372036854775807 ∧ dns D' = Bk.ins (dns D) (⟨xn, xa, xc, xl⟩ : Dm).dn ∧ (∀ d ∈ D', d ∈ D ∨ d = ⟨xn, xa, xc, xl⟩) ∧ (∀ p, a = some p → w.heap.size ≤ p.block) ∧ Gr w U3) := by
              intro v3 U3 ho g
              have ho2 : World.ownsRow U3 V0.heap.size 38 2 v3 (D.take p ++ [(⟨xn, xa, xc, xl⟩ : Dm)] ++ D.drop p).length ((D.take p ++ [(⟨xn, xa, xc, xl⟩ : Dm)] ++ D.drop p).flatMap dmC) := by
                rw [List.flatMap_append, List.flatMap_append, List.length_append, List.length_append]
                rw [List.nil_append, Nat.zero_add] at ho
                exact ho
              obtain ⟨a', c', e', hl', hc', row', hbs, hno⟩ := own_row ho2
              have hmem : ∀ d ∈ D.take p ++ [(⟨xn, xa, xc, xl⟩ : Dm)] ++ D.drop p, d ∈ D ∨ d = ⟨xn, xa, xc, xl⟩ := by
                intro d hd
                rcases List.mem_append.1 hd with hd | hd
                · rcases List.mem_append.1 hd with hd | hd
                  · exact Or.inl (List.mem_of_mem_take hd)
                  · exact Or.inr (List.mem_singleton.1 hd)
                · exact Or.inl (List.mem_of_mem_drop hd)
              refine ⟨a', c', _, e', ⟨row', fun d hd => ?_, fun d hd => ?_⟩, hno, hl', hc', HIns.out, hmem, fun q e => Nat.le_trans HGT.out.size (hbs q e), HGT.out.trans g⟩
              · rcases List.mem_append.1 hd with hd | hd
                · rcases List.mem_append.1 hd with hd | hd
                  · exact (HBV.out.st d (List.mem_of_mem_take hd)).gr g
                  · rw [List.mem_singleton] at hd; subst hd; exact HSV.out.gr g
                · exact (HBV.out.st d (List.mem_of_mem_drop hd)).gr g
              · rcases List.mem_append.1 hd with hd | hd
                · rcases List.mem_append.1 hd with hd | hd
                  · exact HBV.out.rng d (List.mem_of_mem_take hd)
                  · rw [List.mem_singleton] at hd; subst hd; exact HXi.out
                · exact HBV.out.rng d (List.mem_of_mem_drop hd)
            go_wp2_with fail
            have G0 : Gr V0 V0.drew := (Gr.refl V0).drew
            refine wp_region_held_drew (S := (fun w' => Gr V0 w' ∧ w'.cell? ⟨w.heap.size, 0, none⟩ = some (.string xn) ∧ w'.cell? ⟨w.heap.size, 1, none⟩ = some (.slice xa xl.length xc))) (by kernel_rfl) (by first | exact hold2 G0 c0 c1 | exact hold2 G1 c0 c1 | exact hold2 G2 c0 c1 | exact hold2 G3 c0 c1 | exact hold2 G4 c0 c1 | exact hold2 G5 c0 c1) (fun hHeld => ?_)
            refine take_yes 1 41 (v := ?_) rfl rfl (by kernel_rfl) (by kernel_rfl) (by kernel_rfl) (fun _ _ _ h => h) (by rfl) ?_ hHeld ?_
            rotate_left
            · (intro w hSw; (try dsimp only at hSw); go_simp; try with_reducible rfl)
            simp only [Act.put, List.setIfInBounds_toArray, List.set_cons_zero, List.set_cons_succ]
            refine take_yes 2 42 (v := ?_) rfl rfl (by kernel_rfl) (by kernel_rfl) (by kernel_rfl) (fun _ _ _ h => h) (by rfl) ?_ hHeld ?_
            rotate_left
            · (intro w hSw; (try dsimp only at hSw); go_simp; try with_reducible rfl)
            simp only [Act.put, List.setIfInBounds_toArray, List.set_cons_zero, List.set_cons_succ]
            refine take_yes 3 43 (v := ?_) rfl rfl (by kernel_rfl) (by kernel_rfl) (by kernel_rfl) (fun _ _ _ h => h) (by rfl) ?_ hHeld ?_
            rotate_left
            · (intro w hSw; (try dsimp only at hSw); go_simp; try with_reducible rfl)
            simp only [Act.put, List.setIfInBounds_toArray, List.set_cons_zero, List.set_cons_succ]
            refine take_yes 5 45 (v := ?_) rfl rfl (by kernel_rfl) (by kernel_rfl) (by kernel_rfl) (fun _ _ _ h => h) (by rfl) ?_ hHeld ?_
            rotate_left
            · (intro w hSw; (try dsimp only at hSw); go_simp; try with_reducible rfl)
            simp only [Act.put, List.setIfInBounds_toArray, List.set_cons_zero, List.set_cons_succ]
            refine take_yes 8 48 (v := ?_) rfl rfl (by kernel_rfl) (by kernel_rfl) (by kernel_rfl) (fun _ _ _ h => h) (by rfl) ?_ hHeld ?_
            rotate_left
            · (intro w hSw; (try dsimp only at hSw); go_simp; try with_reducible rfl)
            simp only [Act.put, List.setIfInBounds_toArray, List.set_cons_zero, List.set_cons_succ]
            refine take_yes 9 49 (v := ?_) rfl rfl (by kernel_rfl) (by kernel_rfl) (by kernel_rfl) (fun _ _ _ h => h) (by rfl) ?_ hHeld ?_
            rotate_left
            · (intro w hSw; (try dsimp only at hSw); go_simp; try with_reducible rfl)
            simp only [Act.put, List.setIfInBounds_toArray, List.set_cons_zero, List.set_cons_succ]
            refine take_yes 10 50 (v := ?_) rfl rfl (by kernel_rfl) (by kernel_rfl) (by kernel_rfl) (fun _ _ _ h => h) (by rfl) ?_ hHeld ?_
            rotate_left
            · (intro w hSw; (try dsimp only at hSw); go_simp; try with_reducible rfl)
            simp only [Act.put, List.setIfInBounds_toArray, List.set_cons_zero, List.set_cons_succ]
            refine wpAnyH_ready (rs := [0, 6]) (by kernel_rfl) (by simp) (AllReadyH.cons rfl (fun K hK => ?_) (AllReadyH.cons rfl (fun K hK => ?_) AllReadyH.nil))
            · have G1 : Gr V0 (V0.drew.alloc (.cells #[] 38)) := G0.alloc
              have own0 : World.ownsRow (V0.drew.alloc (.cells #[] 38)) V0.heap.size 38 2 (.slice (some ⟨V0.heap.size, 0, none⟩) 0 0) 0 [] := World.ownsRow_lit V0.drew #[] 0 G0.size (by unfold maxLen; omega) rfl
              go_simp
              refine hK.out _ _ (by first | exact hold2 G0 c0 c1 | exact hold2 G1 c0 c1 | exact hold2 G2 c0 c1 | exact hold2 G3 c0 c1 | exact hold2 G4 c0 c1 | exact hold2 G5 c0 c1) (fun hHeldN => ?_)
              clear hHeld hK K
              have hHeld := hHeldN
              clear hHeldN
              refine wpAnyH_ready (rs := [4, 6]) (by kernel_rfl) (by simp) (AllReadyH.cons rfl (fun K hK => ?_) (AllReadyH.cons rfl (fun K hK => ?_) AllReadyH.nil))
              · skip
                refine step_append_row (by rfl) _ _ 22 (by rfl) V0.heap.size 38 i0 (.agg #[.string ⟨#[]⟩, .slice none 0 0]) 2 40 Tryz.underlying22 hi0 hz0 hz1 hz2 rfl (by decide) (.slice (some ⟨V0.heap.size, 0, none⟩) 0 0) 0 [] (by rfl) own0 dmC_len (D.take p) none 0 (by first | rfl | (rw [ht1, hp0]; rfl) | (rw [hd1, hD0, hp0]; rfl)) (fun _ => rfl) (R1.gr G1) (dm_one _) (by unfold maxLen; omega) (by omega) G1.size ?_; intro v1 U1 own1 gr1; have G2 : Gr V0 U1 := G1.grown gr1 (fun b e => (own0.lt b e).1)
                refine hK.out (Act.put _ (some 44) v1) _ (by first | exact hold2 G0 c0 c1 | exact hold2 G1 c0 c1 | exact hold2 G2 c0 c1 | exact hold2 G3 c0 c1 | exact hold2 G4 c0 c1 | exact hold2 G5 c0 c1) (fun hHeldN => ?_)
                clear hHeld hK K
                have hHeld := hHeldN
                clear hHeldN
                simp only [Act.put, List.setIfInBounds_toArray, List.set_cons_zero, List.set_cons_succ]
                have G3 : Gr V0 (U1.alloc (.cells #[.string xn, .slice xa xl.length xc] 38)) := G2.alloc
                have rx : RowAt dmC (U1.alloc (.cells #[.string xn, .slice xa xl.length xc] 38)) (some ⟨U1.heap.size, 0, none⟩) [(⟨xn, xa, xc, xl⟩ : Dm)] := row_new _ _ _ _ _ _
                have own1b := own_gr2 own1 ((Gr.refl U1).alloc (o := (.cells #[.string xn, .slice xa xl.length xc] 38)))
                refine wpAnyH_ready (rs := [6]) (by kernel_rfl) (by simp) (AllReadyH.cons rfl (fun K hK => ?_) AllReadyH.nil)
                go_simp
                refine hK.out _ _ (by first | exact hold2 G0 c0 c1 | exact hold2 G1 c0 c1 | exact hold2 G2 c0 c1 | exact hold2 G3 c0 c1 | exact hold2 G4 c0 c1 | exact hold2 G5 c0 c1) (fun hHeldN => ?_)
                clear hHeld hK K
                have hHeld := hHeldN
                clear hHeldN
                refine wpAnyH_ready (rs := [7]) (by kernel_rfl) (by simp) (AllReadyH.cons rfl (fun K hK => ?_) AllReadyH.nil)
                refine step_append_row (by rfl) _ _ 22 (by rfl) V0.heap.size 38 i0 (.agg #[.string ⟨#[]⟩, .slice none 0 0]) 2 40 Tryz.underlying22 hi0 hz0 hz1 hz2 rfl (by decide) v1 (0 + (D.take p).length) ([] ++ (D.take p).flatMap dmC) (by rfl) own1b dmC_len [(⟨xn, xa, xc, xl⟩ : Dm)] (some ⟨U1.heap.size, 0, none⟩) 1 (by first | rfl | (rw [ht1, hp0]; rfl) | (rw [hd1, hD0, hp0]; rfl)) (fun e => by cases e) rx (dm_one _) (by unfold maxLen; omega) (by omega) G3.size ?_; intro v2 U2 own2 gr2; have G4 : Gr V0 U2 := G3.grown gr2 (fun b e => (own1b.lt b e).1)
                refine hK.out (Act.put _ (some 47) v2) _ (by first | exact hold2 G0 c0 c1 | exact hold2 G1 c0 c1 | exact hold2 G2 c0 c1 | exact hold2 G3 c0 c1 | exact hold2 G4 c0 c1 | exact hold2 G5 c0 c1) (fun hHeldN => ?_)
                clear hHeld hK K
                have hHeld := hHeldN
                clear hHeldN
                simp only [Act.put, List.setIfInBounds_toArray, List.set_cons_zero, List.set_cons_succ]
                refine wpAnyH_ready (rs := [11]) (by kernel_rfl) (by simp) (AllReadyH.cons rfl (fun K hK => ?_) AllReadyH.nil)
                refine step_append_row (by rfl) _ _ 22 (by rfl) V0.heap.size 38 i0 (.agg #[.string ⟨#[]⟩, .slice none 0 0]) 2 40 Tryz.underlying22 hi0 hz0 hz1 hz2 rfl (by decide) v2 (0 + (D.take p).length + [(⟨xn, xa, xc, xl⟩ : Dm)].length) ([] ++ (D.take p).flatMap dmC ++ [(⟨xn, xa, xc, xl⟩ : Dm)].flatMap dmC) (by rfl) own2 dmC_len (D.drop p) none 0 (by first | rfl | (rw [ht1, hp0]; rfl) | (rw [hd1, hD0, hp0]; rfl)) (fun _ => rfl) (R3.gr G4) (dm_one _) (by unfold maxLen; omega) (by omega) G4.size ?_; intro v3 U3 own3 gr3; have G5 : Gr V0 U3 := G4.grown gr3 (fun b e => (own2.lt b e).1)
                refine hK.out (Act.put _ (some 51) v3) _ (by first | exact hold2 G0 c0 c1 | exact hold2 G1 c0 c1 | exact hold2 G2 c0 c1 | exact hold2 G3 c0 c1 | exact hold2 G4 c0 c1 | exact hold2 G5 c0 c1) (fun hHeldN => ?_)
                clear hHeld hK K
                have hHeld := hHeldN
                clear hHeldN
                simp only [Act.put, List.setIfInBounds_toArray, List.set_cons_zero, List.set_cons_succ]
                refine take_yes 12 4 (v := ?_) rfl rfl (by kernel_rfl) (by kernel_rfl) (by kernel_rfl) (fun _ _ _ h => h) (by rfl) ?_ hHeld ?_
                rotate_left
                · (intro w hSw; (try dsimp only at hSw); go_simp; try with_reducible rfl)
                simp only [Act.put, List.setIfInBounds_toArray, List.set_cons_zero, List.set_cons_succ]
                refine take_yes 13 5 (v := ?_) rfl rfl (by kernel_rfl) (by kernel_rfl) (by kernel_rfl) (fun _ _ _ h => h) (by rfl) ?_ hHeld ?_
                rotate_left
                · (intro w hSw; (try dsimp only at hSw); go_simp; try with_reducible rfl)
                simp only [Act.put, List.setIfInBounds_toArray, List.set_cons_zero, List.set_cons_succ]
                refine wpAnyH_done (by kernel_rfl) ?_ _
                obtain ⟨a5, q5, D5, e5, b5, n5, l5, m5, i5, j5, k5, g5⟩ := HFin.out _ _ own3 G5
                subst e5
                have HF5 := Lib.hid b5
                have HI5 := Lib.hid i5
                have HJ5 := Lib.hid j5
                have HK5 := Lib.hid k5
                have HG5 := Lib.hid g5
                clear b5 i5 j5 k5 g5 own3 HFin
                go_wp2
                go_ret2
                exact Or.inr ⟨HP0.out, a5, q5, D5, rfl, HF5.out, n5, l5, m5, HI5.out, HJ5.out, HK5.out, HG5.out⟩
              · have G2 : Gr V0 ((V0.drew.alloc (.cells #[] 38)).alloc (.cells #[.string xn, .slice xa xl.length xc] 38)) := G1.alloc
                have rx : RowAt dmC ((V0.drew.alloc (.cells #[] 38)).alloc (.cells #[.string xn, .slice xa xl.length xc] 38)) (some ⟨V0.heap.size + 1, 0, none⟩) [(⟨xn, xa, xc, xl⟩ : Dm)] := by have := row_new (V0.drew.alloc (.cells #[] 38)) xn xa xc xl 38; simpa using this
                have own0b := own_gr2 own0 ((Gr.refl (V0.drew.alloc (.cells #[] 38))).alloc (o := (.cells #[.string xn, .slice xa xl.length xc] 38)))
                go_simp
                refine hK.out _ _ (by first | exact hold2 G0 c0 c1 | exact hold2 G1 c0 c1 | exact hold2 G2 c0 c1 | exact hold2 G3 c0 c1 | exact hold2 G4 c0 c1 | exact hold2 G5 c0 c1) (fun hHeldN => ?_)
                clear hHeld hK K
                have hHeld := hHeldN
                clear hHeldN
                refine wpAnyH_ready (rs := [4]) (by kernel_rfl) (by simp) (AllReadyH.cons rfl (fun K hK => ?_) AllReadyH.nil)
                refine step_append_row (by rfl) _ _ 22 (by rfl) V0.heap.size 38 i0 (.agg #[.string ⟨#[]⟩, .slice none 0 0]) 2 40 Tryz.underlying22 hi0 hz0 hz1 hz2 rfl (by decide) (.slice (some ⟨V0.heap.size, 0, none⟩) 0 0) 0 [] (by rfl) own0b dmC_len (D.take p) none 0 (by first | rfl | (rw [ht1, hp0]; rfl) | (rw [hd1, hD0, hp0]; rfl)) (fun _ => rfl) (R1.gr G2) (dm_one _) (by unfold maxLen; omega) (by omega) G2.size ?_; intro v1 U1 own1 gr1; have G3 : Gr V0 U1 := G2.grown gr1 (fun b e => (own0b.lt b e).1)
                refine hK.out (Act.put _ (some 44) v1) _ (by first | exact hold2 G0 c0 c1 | exact hold2 G1 c0 c1 | exact hold2 G2 c0 c1 | exact hold2 G3 c0 c1 | exact hold2 G4 c0 c1 | exact hold2 G5 c0 c1) (fun hHeldN => ?_)
                clear hHeld hK K
                have hHeld := hHeldN
                clear hHeldN
                simp only [Act.put, List.setIfInBounds_toArray, List.set_cons_zero, List.set_cons_succ]
                have rxb : RowAt dmC U1 (some ⟨V0.heap.size + 1, 0, none⟩) [(⟨xn, xa, xc, xl⟩ : Dm)] := row_grown rx gr1 (fun a e => by cases e; simp [Value.ownBlock])
                refine wpAnyH_ready (rs := [7]) (by kernel_rfl) (by simp) (AllReadyH.cons rfl (fun K hK => ?_) AllReadyH.nil)
                refine step_append_row (by rfl) _ _ 22 (by rfl) V0.heap.size 38 i0 (.agg #[.string ⟨#[]⟩, .slice none 0 0]) 2 40 Tryz.underlying22 hi0 hz0 hz1 hz2 rfl (by decide) v1 (0 + (D.take p).length) ([] ++ (D.take p).flatMap dmC) (by rfl) own1 dmC_len [(⟨xn, xa, xc, xl⟩ : Dm)] (some ⟨V0.heap.size + 1, 0, none⟩) 1 (by first | rfl | (rw [ht1, hp0]; rfl) | (rw [hd1, hD0, hp0]; rfl)) (fun e => by cases e) rxb (dm_one _) (by unfold maxLen; omega) (by omega) G3.size ?_; intro v2 U2 own2 gr2; have G4 : Gr V0 U2 := G3.grown gr2 (fun b e => (own1.lt b e).1)
                refine hK.out (Act.put _ (some 47) v2) _ (by first | exact hold2 G0 c0 c1 | exact hold2 G1 c0 c1 | exact hold2 G2 c0 c1 | exact hold2 G3 c0 c1 | exact hold2 G4 c0 c1 | exact hold2 G5 c0 c1) (fun hHeldN => ?_)
                clear hHeld hK K
                have hHeld := hHeldN
                clear hHeldN
                simp only [Act.put, List.setIfInBounds_toArray, List.set_cons_zero, List.set_cons_succ]
                refine wpAnyH_ready (rs := [11]) (by kernel_rfl) (by simp) (AllReadyH.cons rfl (fun K hK => ?_) AllReadyH.nil)
                refine step_append_row (by rfl) _ _ 22 (by rfl) V0.heap.size 38 i0 (.agg #[.string ⟨#[]⟩, .slice none 0 0]) 2 40 Tryz.underlying22 hi0 hz0 hz1 hz2 rfl (by decide) v2 (0 + (D.take p).length + [(⟨xn, xa, xc, xl⟩ : Dm)].length) ([] ++ (D.take p).flatMap dmC ++ [(⟨xn, xa, xc, xl⟩ : Dm)].flatMap dmC) (by rfl) own2 dmC_len (D.drop p) none 0 (by first | rfl | (rw [ht1, hp0]; rfl) | (rw [hd1, hD0, hp0]; rfl)) (fun _ => rfl) (R3.gr G4) (dm_one _) (by unfold maxLen; omega) (by omega) G4.size ?_; intro v3 U3 own3 gr3; have G5 : Gr V0 U3 := G4.grown gr3 (fun b e => (own2.lt b e).1)
                refine hK.out (Act.put _ (some 51) v3) _ (by first | exact hold2 G0 c0 c1 | exact hold2 G1 c0 c1 | exact hold2 G2 c0 c1 | exact hold2 G3 c0 c1 | exact hold2 G4 c0 c1 | exact hold2 G5 c0 c1) (fun hHeldN => ?_)
                clear hHeld hK K
                have hHeld := hHeldN
                clear hHeldN
                simp only [Act.put, List.setIfInBounds_toArray, List.set_cons_zero, List.set_cons_succ]
                refine take_yes 12 4 (v := ?_) rfl rfl (by kernel_rfl) (by kernel_rfl) (by kernel_rfl) (fun _ _ _ h => h) (by rfl) ?_ hHeld ?_
                rotate_left
                · (intro w hSw; (try dsimp only at hSw); go_simp; try with_reducible rfl)
                simp only [Act.put, List.setIfInBounds_toArray, List.set_cons_zero, List.set_cons_succ]
                refine take_yes 13 5 (v := ?_) rfl rfl (by kernel_rfl) (by kernel_rfl) (by kernel_rfl) (fun _ _ _ h => h) (by rfl) ?_ hHeld ?_
                rotate_left
                · (intro w hSw; (try dsimp only at hSw); go_simp; try with_reducible rfl)
                simp only [Act.put, List.setIfInBounds_toArray, List.set_cons_zero, List.set_cons_succ]
                refine wpAnyH_done (by kernel_rfl) ?_ _
                obtain ⟨a5, q5, D5, e5, b5, n5, l5, m5, i5, j5, k5, g5⟩ := HFin.out _ _ own3 G5
                subst e5
                have HF5 := Lib.hid b5
                have HI5 := Lib.hid i5
                have HJ5 := Lib.hid j5
                have HK5 := Lib.hid k5
                have HG5 := Lib.hid g5
                clear b5 i5 j5 k5 g5 own3 HFin
                go_wp2
                go_ret2
                exact Or.inr ⟨HP0.out, a5, q5, D5, rfl, HF5.out, n5, l5, m5, HI5.out, HJ5.out, HK5.out, HG5.out⟩
            · have G1 : Gr V0 (V0.drew.alloc (.cells #[.string xn, .slice xa xl.length xc] 38)) := G0.alloc
              have rx : RowAt dmC (V0.drew.alloc (.cells #[.string xn, .slice xa xl.length xc] 38)) (some ⟨V0.heap.size, 0, none⟩) [(⟨xn, xa, xc, xl⟩ : Dm)] := row_new V0.drew xn xa xc xl 38
              go_simp
              refine hK.out _ _ (by first | exact hold2 G0 c0 c1 | exact hold2 G1 c0 c1 | exact hold2 G2 c0 c1 | exact hold2 G3 c0 c1 | exact hold2 G4 c0 c1 | exact hold2 G5 c0 c1) (fun hHeldN => ?_)
              clear hHeld hK K
              have hHeld := hHeldN
              clear hHeldN
              have G2 : Gr V0 ((V0.drew.alloc (.cells #[.string xn, .slice xa xl.length xc] 38)).alloc (.cells #[] 38)) := G1.alloc
              have own0 : World.ownsRow ((V0.drew.alloc (.cells #[.string xn, .slice xa xl.length xc] 38)).alloc (.cells #[] 38)) V0.heap.size 38 2 (.slice (some ⟨V0.heap.size + 1, 0, none⟩) 0 0) 0 [] := by have := World.ownsRow_lit (V0.drew.alloc (.cells #[.string xn, .slice xa xl.length xc] 38)) #[] 0 (base := V0.heap.size) (e := 38) (size := 2) G1.size (by unfold maxLen; omega) rfl; simpa using this
              have rx2 := rx.gr ((Gr.refl (V0.drew.alloc (.cells #[.string xn, .slice xa xl.length xc] 38))).alloc (o := .cells #[] 38))
              refine wpAnyH_ready (rs := [0]) (by kernel_rfl) (by simp) (AllReadyH.cons rfl (fun K hK => ?_) AllReadyH.nil)
              go_simp
              refine hK.out _ _ (by first | exact hold2 G0 c0 c1 | exact hold2 G1 c0 c1 | exact hold2 G2 c0 c1 | exact hold2 G3 c0 c1 | exact hold2 G4 c0 c1 | exact hold2 G5 c0 c1) (fun hHeldN => ?_)
              clear hHeld hK K
              have hHeld := hHeldN
              clear hHeldN
              refine wpAnyH_ready (rs := [4]) (by kernel_rfl) (by simp) (AllReadyH.cons rfl (fun K hK => ?_) AllReadyH.nil)
              refine step_append_row (by rfl) _ _ 22 (by rfl) V0.heap.size 38 i0 (.agg #[.string ⟨#[]⟩, .slice none 0 0]) 2 40 Tryz.underlying22 hi0 hz0 hz1 hz2 rfl (by decide) (.slice (some ⟨V0.heap.size + 1, 0, none⟩) 0 0) 0 [] (by rfl) own0 dmC_len (D.take p) none 0 (by first | rfl | (rw [ht1, hp0]; rfl) | (rw [hd1, hD0, hp0]; rfl)) (fun _ => rfl) (R1.gr G2) (dm_one _) (by unfold maxLen; omega) (by omega) G2.size ?_; intro v1 U1 own1 gr1; have G3 : Gr V0 U1 := G2.grown gr1 (fun b e => (own0.lt b e).1)
              refine hK.out (Act.put _ (some 44) v1) _ (by first | exact hold2 G0 c0 c1 | exact hold2 G1 c0 c1 | exact hold2 G2 c0 c1 | exact hold2 G3 c0 c1 | exact hold2 G4 c0 c1 | exact hold2 G5 c0 c1) (fun hHeldN => ?_)
              clear hHeld hK K
              have hHeld := hHeldN
              clear hHeldN
              simp only [Act.put, List.setIfInBounds_toArray, List.set_cons_zero, List.set_cons_succ]
              have rxb : RowAt dmC U1 (some ⟨V0.heap.size, 0, none⟩) [(⟨xn, xa, xc, xl⟩ : Dm)] := row_grown rx2 gr1 (fun a e => by cases e; simp [Value.ownBlock])
              refine wpAnyH_ready (rs := [7]) (by kernel_rfl) (by simp) (AllReadyH.cons rfl (fun K hK => ?_) AllReadyH.nil)
              refine step_append_row (by rfl) _ _ 22 (by rfl) V0.heap.size 38 i0 (.agg #[.string ⟨#[]⟩, .slice none 0 0]) 2 40 Tryz.underlying22 hi0 hz0 hz1 hz2 rfl (by decide) v1 (0 + (D.take p).length) ([] ++ (D.take p).flatMap dmC) (by rfl) own1 dmC_len [(⟨xn, xa, xc, xl⟩ : Dm)] (some ⟨V0.heap.size, 0, none⟩) 1 (by first | rfl | (rw [ht1, hp0]; rfl) | (rw [hd1, hD0, hp0]; rfl)) (fun e => by cases e) rxb (dm_one _) (by unfold maxLen; omega) (by omega) G3.size ?_; intro v2 U2 own2 gr2; have G4 : Gr V0 U2 := G3.grown gr2 (fun b e => (own1.lt b e).1)
              refine hK.out (Act.put _ (some 47) v2) _ (by first | exact hold2 G0 c0 c1 | exact hold2 G1 c0 c1 | exact hold2 G2 c0 c1 | exact hold2 G3 c0 c1 | exact hold2 G4 c0 c1 | exact hold2 G5 c0 c1) (fun hHeldN => ?_)
              clear hHeld hK K
              have hHeld := hHeldN
              clear hHeldN
              simp only [Act.put, List.setIfInBounds_toArray, List.set_cons_zero, List.set_cons_succ]
              refine wpAnyH_ready (rs := [11]) (by kernel_rfl) (by simp) (AllReadyH.cons rfl (fun K hK => ?_) AllReadyH.nil)
              refine step_append_row (by rfl) _ _ 22 (by rfl) V0.heap.size 38 i0 (.agg #[.string ⟨#[]⟩, .slice none 0 0]) 2 40 Tryz.underlying22 hi0 hz0 hz1 hz2 rfl (by decide) v2 (0 + (D.take p).length + [(⟨xn, xa, xc, xl⟩ : Dm)].length) ([] ++ (D.take p).flatMap dmC ++ [(⟨xn, xa, xc, xl⟩ : Dm)].flatMap dmC) (by rfl) own2 dmC_len (D.drop p) none 0 (by first | rfl | (rw [ht1, hp0]; rfl) | (rw [hd1, hD0, hp0]; rfl)) (fun _ => rfl) (R3.gr G4) (dm_one _) (by unfold maxLen; omega) (by omega) G4.size ?_; intro v3 U3 own3 gr3; have G5 : Gr V0 U3 := G4.grown gr3 (fun b e => (own2.lt b e).1)
              refine hK.out (Act.put _ (some 51) v3) _ (by first | exact hold2 G0 c0 c1 | exact hold2 G1 c0 c1 | exact hold2 G2 c0 c1 | exact hold2 G3 c0 c1 | exact hold2 G4 c0 c1 | exact hold2 G5 c0 c1) (fun hHeldN => ?_)
              clear hHeld hK K
              have hHeld := hHeldN
              clear hHeldN
              simp only [Act.put, List.setIfInBounds_toArray, List.set_cons_zero, List.set_cons_succ]
              refine take_yes 12 4 (v := ?_) rfl rfl (by kernel_rfl) (by kernel_rfl) (by kernel_rfl) (fun _ _ _ h => h) (by rfl) ?_ hHeld ?_
              rotate_left
              · (intro w hSw; (try dsimp only at hSw); go_simp; try with_reducible rfl)
              simp only [Act.put, List.setIfInBounds_toArray, List.set_cons_zero, List.set_cons_succ]
              refine take_yes 13 5 (v := ?_) rfl rfl (by kernel_rfl) (by kernel_rfl) (by kernel_rfl) (fun _ _ _ h => h) (by rfl) ?_ hHeld ?_
              rotate_left
              · (intro w hSw; (try dsimp only at hSw); go_simp; try with_reducible rfl)
              simp only [Act.put, List.setIfInBounds_toArray, List.set_cons_zero, List.set_cons_succ]
              refine wpAnyH_done (by kernel_rfl) ?_ _
              obtain ⟨a5, q5, D5, e5, b5, n5, l5, m5, i5, j5, k5, g5⟩ := HFin.out _ _ own3 G5
              subst e5
              have HF5 := Lib.hid b5
              have HI5 := Lib.hid i5
              have HJ5 := Lib.hid j5
              have HK5 := Lib.hid k5
              have HG5 := Lib.hid g5
              clear b5 i5 j5 k5 g5 own3 HFin
              go_wp2
              go_ret2
              exact Or.inr ⟨HP0.out, a5, q5, D5, rfl, HF5.out, n5, l5, m5, HI5.out, HJ5.out, HK5.out, HG5.out⟩
        | some a =>
          by_cases hcp : cap = p
          · obtain rfl : cap = D.length := by omega
            obtain rfl : p = D.length := hpe
            have hdl : D.drop D.length = [] := List.drop_length
            by_cases h8 : 8 ≤ D.length
            · have HP3 : Hid (Bk.putE (dns D) (⟨xn, xa, xc, xl⟩ : Dm).dn = 3) := by show _ = _; rw [HE.out, if_neg (by decide), if_pos h8]
              obtain e8 : D.length = 8 := by omega
              have h8i : ((D.length : Int) == 8) = true := by rw [e8]; rfl
              clear e8 h8
              go_wp2
              go_ret2
              exact Or.inl ⟨by rw [HP3.out]; decide, by (rw [HP3.out]) <;> rfl, HGT.out⟩
            · have HP0 : Hid (Bk.putE (dns D) (⟨xn, xa, xc, xl⟩ : Dm).dn = 0) := by show _ = _; rw [HE.out, if_neg (by decide), if_neg h8]
              have h8i : ((D.length : Int) == 8) = false := by rw [beq_eq_false_iff_ne]; omega
              clear h8
              have ht1 : (D.take D.length).length = D.length := by rw [List.length_take]; omega
              have hd1 : (D.drop D.length).length = D.length - D.length := List.length_drop
              have hs1 : [(⟨xn, xa, xc, xl⟩ : Dm)].length = 1 := rfl
              obtain ⟨V0, hV0⟩ : ∃ V0, V0 = wr.drew.drew := ⟨_, rfl⟩
              have HBV := Lib.hid (HB.out.gr (HGT.out))
              have HSV := Lib.hid (HS.out.gr (HGT.out))
              have c0 : (wr.drew.drew).cell? ⟨w.heap.size, 0, none⟩ = some (.string xn) := c0
              have c1 : (wr.drew.drew).cell? ⟨w.heap.size, 1, none⟩ = some (.slice xa xl.length xc) := c1
              rw [← hV0] at HGT HBV HSV c0 c1 ⊢
              clear hV0 HX0 HG HGW HHas HHasN HPos
              have R1 : RowAt dmC V0 (some a) (D.take D.length) := row_take dmC_len HBV.out.row D.length hpl
              have R3 : RowAt dmC V0 (some a) (D.drop D.length) := by rw [hnil]; exact RowAt.nil
              have HFin : Hid (∀ v3 U3, World.ownsRow U3 V0.heap.size 38 2 v3 (0 + (D.take D.length).length + [(⟨xn, xa, xc, xl⟩ : Dm)].length + (D.drop D.length).length) ([] ++ (D.take D.length).flatMap dmC ++ [(⟨xn, xa, xc, xl⟩ : Dm)].flatMap dmC ++ (D.drop D.length).flatMap dmC) → Gr V0 U3 → ∃ a c D', v3 = .slice a D'.length c ∧ BkAt U3 a D' ∧ (a = none → c = 0) ∧ D'.length ≤ c ∧ c ≤ 9223372036854775807 ∧ dns D' = Bk.ins (dns D) (⟨xn, xa, xc, xl⟩ : Dm).dn ∧ (∀ d ∈ D', d ∈ D ∨ d = ⟨xn, xa, xc, xl⟩) ∧ (∀ p, a = some p → w.heap.size ≤ p.block) ∧ Gr w U3) := by
                intro v3 U3 ho g
                have ho2 : World.ownsRow U3 V0.heap.size 38 2 v3 (D.take D.length ++ [(⟨xn, xa, xc, xl⟩ : Dm)] ++ D.drop D.length).length ((D.take D.length ++ [(⟨xn, xa, xc, xl⟩ : Dm)] ++ D.drop D.length).flatMap dmC) := by
                  rw [List.flatMap_append, List.flatMap_append, List.length_append, List.length_append]
                  rw [List.nil_append, Nat.zero_add] at ho
                  exact ho
                obtain ⟨a', c', e', hl', hc', row', hbs, hno⟩ := own_row ho2
                have hmem : ∀ d ∈ D.take D.length ++ [(⟨xn, xa, xc, xl⟩ : Dm)] ++ D.drop D.length, d ∈ D ∨ d = ⟨xn, xa, xc, xl⟩ := by
                  intro d hd
                  rcases List.mem_append.1 hd with hd | hd
                  · rcases List.mem_append.1 hd with hd | hd
                    · exact Or.inl (List.mem_of_mem_take hd)
                    · exact Or.inr (List.mem_singleton.1 hd)
                  · exact Or.inl (List.mem_of_mem_drop hd)
                refine ⟨a', c', _, e', ⟨row', fun d hd => ?_, fun d hd => ?_⟩, hno, hl', hc', HIns.out, hmem, fun q e => Nat.le_trans HGT.out.size (hbs q e), HGT.out.trans g⟩
                · rcases List.mem_append.1 hd with hd | hd
                  · rcases List.mem_append.1 hd with hd | hd
                    · exact (HBV.out.st d (List.mem_of_mem_take hd)).gr g
                    · rw [List.mem_singleton] at hd; subst hd; exact HSV.out.gr g
                  · exact (HBV.out.st d (List.mem_of_mem_drop hd)).gr g
                · rcases List.mem_append.1 hd with hd | hd
                  · rcases List.mem_append.1 hd with hd | hd
                    · exact HBV.out.rng d (List.mem_of_mem_take hd)
                    · rw [List.mem_singleton] at hd; subst hd; exact HXi.out
                  · exact HBV.out.rng d (List.mem_of_mem_drop hd)
              clear hnil hge
              go_wp2_with fail
              have G0 : Gr V0 V0.drew := (Gr.refl V0).drew
              refine wp_region_held_drew (S := (fun w' => Gr V0 w' ∧ w'.cell? ⟨w.heap.size, 0, none⟩ = some (.string xn) ∧ w'.cell? ⟨w.heap.size, 1, none⟩ = some (.slice xa xl.length xc))) (by kernel_rfl) (by first | exact hold2 G0 c0 c1 | exact hold2 G1 c0 c1 | exact hold2 G2 c0 c1 | exact hold2 G3 c0 c1 | exact hold2 G4 c0 c1 | exact hold2 G5 c0 c1) (fun hHeld => ?_)
              refine take_yes 1 41 (v := ?_) rfl rfl (by kernel_rfl) (by kernel_rfl) (by kernel_rfl) (fun _ _ _ h => h) (by rfl) ?_ hHeld ?_
              rotate_left
              · (intro w hSw; (try dsimp only at hSw); go_simp; try with_reducible rfl)
              simp only [Act.put, List.setIfInBounds_toArray, List.set_cons_zero, List.set_cons_succ]
              refine take_yes 2 42 (v := ?_) rfl rfl (by kernel_rfl) (by kernel_rfl) (by kernel_rfl) (fun _ _ _ h => h) (by rfl) ?_ hHeld ?_
              rotate_left
              · (intro w hSw; (try dsimp only at hSw); go_simp; try with_reducible rfl)
              simp only [Act.put, List.setIfInBounds_toArray, List.set_cons_zero, List.set_cons_succ]
              refine take_yes 3 43 (v := ?_) rfl rfl (by kernel_rfl) (by kernel_rfl) (by kernel_rfl) (fun _ _ _ h => h) (by rfl) ?_ hHeld ?_
              rotate_left
              · (intro w hSw; (try dsimp only at hSw); go_simp; try with_reducible rfl)
              simp only [Act.put, List.setIfInBounds_toArray, List.set_cons_zero, List.set_cons_succ]
              refine take_yes 5 45 (v := ?_) rfl rfl (by kernel_rfl) (by kernel_rfl) (by kernel_rfl) (fun _ _ _ h => h) (by rfl) ?_ hHeld ?_
              rotate_left
              · (intro w hSw; (try dsimp only at hSw); go_simp; try with_reducible rfl)
              simp only [Act.put, List.setIfInBounds_toArray, List.set_cons_zero, List.set_cons_succ]
              refine take_yes 8 48 (v := ?_) rfl rfl (by kernel_rfl) (by kernel_rfl) (by kernel_rfl) (fun _ _ _ h => h) (by rfl) ?_ hHeld ?_
              rotate_left
              · (intro w hSw; (try dsimp only at hSw); go_simp; try with_reducible rfl)
              simp only [Act.put, List.setIfInBounds_toArray, List.set_cons_zero, List.set_cons_succ]
              refine take_yes 9 49 (v := ?_) rfl rfl (by kernel_rfl) (by kernel_rfl) (by kernel_rfl) (fun _ _ _ h => h) (by rfl) ?_ hHeld ?_
              rotate_left
              · (intro w hSw; (try dsimp only at hSw); go_simp; try with_reducible rfl)
              simp only [Act.put, List.setIfInBounds_toArray, List.set_cons_zero, List.set_cons_succ]
              refine take_yes 10 50 (v := ?_) rfl rfl (by kernel_rfl) (by kernel_rfl) (by kernel_rfl) (fun _ _ _ h => h) (by rfl) ?_ hHeld ?_
              rotate_left
              · (intro w hSw; (try dsimp only at hSw); go_simp; try with_reducible rfl)
              simp only [Act.put, List.setIfInBounds_toArray, List.set_cons_zero, List.set_cons_succ]
              refine wpAnyH_ready (rs := [0, 6]) (by kernel_rfl) (by simp) (AllReadyH.cons rfl (fun K hK => ?_) (AllReadyH.cons rfl (fun K hK => ?_) AllReadyH.nil))
              · have G1 : Gr V0 (V0.drew.alloc (.cells #[] 38)) := G0.alloc
                have own0 : World.ownsRow (V0.drew.alloc (.cells #[] 38)) V0.heap.size 38 2 (.slice (some ⟨V0.heap.size, 0, none⟩) 0 0) 0 [] := World.ownsRow_lit V0.drew #[] 0 G0.size (by unfold maxLen; omega) rfl
                go_simp
                refine hK.out _ _ (by first | exact hold2 G0 c0 c1 | exact hold2 G1 c0 c1 | exact hold2 G2 c0 c1 | exact hold2 G3 c0 c1 | exact hold2 G4 c0 c1 | exact hold2 G5 c0 c1) (fun hHeldN => ?_)
                clear hHeld hK K
                have hHeld := hHeldN
                clear hHeldN
                refine wpAnyH_ready (rs := [4, 6]) (by kernel_rfl) (by simp) (AllReadyH.cons rfl (fun K hK => ?_) (AllReadyH.cons rfl (fun K hK => ?_) AllReadyH.nil))
                · skip
                  refine step_append_row (by rfl) _ _ 22 (by rfl) V0.heap.size 38 i0 (.agg #[.string ⟨#[]⟩, .slice none 0 0]) 2 40 Tryz.underlying22 hi0 hz0 hz1 hz2 rfl (by decide) (.slice (some ⟨V0.heap.size, 0, none⟩) 0 0) 0 [] (by rfl) own0 dmC_len (D.take D.length) (some a) D.length (by first | rfl | (rw [ht1]; rfl) | (rw [hd1, Nat.sub_self]; rfl)) (fun e => by cases e) (R1.gr G1) (dm_one _) (by unfold maxLen; omega) (by omega) G1.size ?_; intro v1 U1 own1 gr1; have G2 : Gr V0 U1 := G1.grown gr1 (fun b e => (own0.lt b e).1)
                  refine hK.out (Act.put _ (some 44) v1) _ (by first | exact hold2 G0 c0 c1 | exact hold2 G1 c0 c1 | exact hold2 G2 c0 c1 | exact hold2 G3 c0 c1 | exact hold2 G4 c0 c1 | exact hold2 G5 c0 c1) (fun hHeldN => ?_)
                  clear hHeld hK K
                  have hHeld := hHeldN
                  clear hHeldN
                  simp only [Act.put, List.setIfInBounds_toArray, List.set_cons_zero, List.set_cons_succ]
                  have G3 : Gr V0 (U1.alloc (.cells #[.string xn, .slice xa xl.length xc] 38)) := G2.alloc
                  have rx : RowAt dmC (U1.alloc (.cells #[.string xn, .slice xa xl.length xc] 38)) (some ⟨U1.heap.size, 0, none⟩) [(⟨xn, xa, xc, xl⟩ : Dm)] := row_new _ _ _ _ _ _
                  have own1b := own_gr2 own1 ((Gr.refl U1).alloc (o := (.cells #[.string xn, .slice xa xl.length xc] 38)))
                  refine wpAnyH_ready (rs := [6]) (by kernel_rfl) (by simp) (AllReadyH.cons rfl (fun K hK => ?_) AllReadyH.nil)
                  go_simp
                  refine hK.out _ _ (by first | exact hold2 G0 c0 c1 | exact hold2 G1 c0 c1 | exact hold2 G2 c0 c1 | exact hold2 G3 c0 c1 | exact hold2 G4 c0 c1 | exact hold2 G5 c0 c1) (fun hHeldN => ?_)
                  clear hHeld hK K
                  have hHeld := hHeldN
                  clear hHeldN
                  refine wpAnyH_ready (rs := [7]) (by kernel_rfl) (by simp) (AllReadyH.cons rfl (fun K hK => ?_) AllReadyH.nil)
                  refine step_append_row (by rfl) _ _ 22 (by rfl) V0.heap.size 38 i0 (.agg #[.string ⟨#[]⟩, .slice none 0 0]) 2 40 Tryz.underlying22 hi0 hz0 hz1 hz2 rfl (by decide) v1 (0 + (D.take D.length).length) ([] ++ (D.take D.length).flatMap dmC) (by rfl) own1b dmC_len [(⟨xn, xa, xc, xl⟩ : Dm)] (some ⟨U1.heap.size, 0, none⟩) 1 (by first | rfl | (rw [ht1]; rfl) | (rw [hd1, Nat.sub_self]; rfl)) (fun e => by cases e) rx (dm_one _) (by unfold maxLen; omega) (by omega) G3.size ?_; intro v2 U2 own2 gr2; have G4 : Gr V0 U2 := G3.grown gr2 (fun b e => (own1b.lt b e).1)
                  refine hK.out (Act.put _ (some 47) v2) _ (by first | exact hold2 G0 c0 c1 | exact hold2 G1 c0 c1 | exact hold2 G2 c0 c1 | exact hold2 G3 c0 c1 | exact hold2 G4 c0 c1 | exact hold2 G5 c0 c1) (fun hHeldN => ?_)
                  clear hHeld hK K
                  have hHeld := hHeldN
                  clear hHeldN
                  simp only [Act.put, List.setIfInBounds_toArray, List.set_cons_zero, List.set_cons_succ]
                  refine wpAnyH_ready (rs := [11]) (by kernel_rfl) (by simp) (AllReadyH.cons rfl (fun K hK => ?_) AllReadyH.nil)
                  refine step_append_row (by rfl) _ _ 22 (by rfl) V0.heap.size 38 i0 (.agg #[.string ⟨#[]⟩, .slice none 0 0]) 2 40 Tryz.underlying22 hi0 hz0 hz1 hz2 rfl (by decide) v2 (0 + (D.take D.length).length + [(⟨xn, xa, xc, xl⟩ : Dm)].length) ([] ++ (D.take D.length).flatMap dmC ++ [(⟨xn, xa, xc, xl⟩ : Dm)].flatMap dmC) (by rfl) own2 dmC_len (D.drop D.length) (some a) 0 (by first | rfl | (rw [ht1]; rfl) | (rw [hd1, Nat.sub_self]; rfl)) (fun e => by cases e) (R3.gr G4) (dm_one _) (by unfold maxLen; omega) (by omega) G4.size ?_; intro v3 U3 own3 gr3; have G5 : Gr V0 U3 := G4.grown gr3 (fun b e => (own2.lt b e).1)
                  refine hK.out (Act.put _ (some 51) v3) _ (by first | exact hold2 G0 c0 c1 | exact hold2 G1 c0 c1 | exact hold2 G2 c0 c1 | exact hold2 G3 c0 c1 | exact hold2 G4 c0 c1 | exact hold2 G5 c0 c1) (fun hHeldN => ?_)
                  clear hHeld hK K
                  have hHeld := hHeldN
                  clear hHeldN
                  simp only [Act.put, List.setIfInBounds_toArray, List.set_cons_zero, List.set_cons_succ]
                  refine take_yes 12 4 (v := ?_) rfl rfl (by kernel_rfl) (by kernel_rfl) (by kernel_rfl) (fun _ _ _ h => h) (by rfl) ?_ hHeld ?_
                  rotate_left
                  · (intro w hSw; (try dsimp only at hSw); go_simp; try with_reducible rfl)
                  simp only [Act.put, List.setIfInBounds_toArray, List.set_cons_zero, List.set_cons_succ]
                  refine take_yes 13 5 (v := ?_) rfl rfl (by kernel_rfl) (by kernel_rfl) (by kernel_rfl) (fun _ _ _ h => h) (by rfl) ?_ hHeld ?_
                  rotate_left
                  · (intro w hSw; (try dsimp only at hSw); go_simp; try with_reducible rfl)
                  simp only [Act.put, List.setIfInBounds_toArray, List.set_cons_zero, List.set_cons_succ]
                  refine wpAnyH_done (by kernel_rfl) ?_ _
                  obtain ⟨a5, q5, D5, e5, b5, n5, l5, m5, i5, j5, k5, g5⟩ := HFin.out _ _ own3 G5
                  subst e5
                  have HF5 := Lib.hid b5
                  have HI5 := Lib.hid i5
                  have HJ5 := Lib.hid j5
                  have HK5 := Lib.hid k5
                  have HG5 := Lib.hid g5
                  clear b5 i5 j5 k5 g5 own3 HFin
                  go_wp2
                  go_ret2
                  exact Or.inr ⟨HP0.out, a5, q5, D5, rfl, HF5.out, n5, l5, m5, HI5.out, HJ5.out, HK5.out, HG5.out⟩
                · have G2 : Gr V0 ((V0.drew.alloc (.cells #[] 38)).alloc (.cells #[.string xn, .slice xa xl.length xc] 38)) := G1.alloc
                  have rx : RowAt dmC ((V0.drew.alloc (.cells #[] 38)).alloc (.cells #[.string xn, .slice xa xl.length xc] 38)) (some ⟨V0.heap.size + 1, 0, none⟩) [(⟨xn, xa, xc, xl⟩ : Dm)] := by have := row_new (V0.drew.alloc (.cells #[] 38)) xn xa xc xl 38; simpa using this
                  have own0b := own_gr2 own0 ((Gr.refl (V0.drew.alloc (.cells #[] 38))).alloc (o := (.cells #[.string xn, .slice xa xl.length xc] 38)))
                  go_simp
                  refine hK.out _ _ (by first | exact hold2 G0 c0 c1 | exact hold2 G1 c0 c1 | exact hold2 G2 c0 c1 | exact hold2 G3 c0 c1 | exact hold2 G4 c0 c1 | exact hold2 G5 c0 c1) (fun hHeldN => ?_)
                  clear hHeld hK K
                  have hHeld := hHeldN
                  clear hHeldN
                  refine wpAnyH_ready (rs := [4]) (by kernel_rfl) (by simp) (AllReadyH.cons rfl (fun K hK => ?_) AllReadyH.nil)
                  refine step_append_row (by rfl) _ _ 22 (by rfl) V0.heap.size 38 i0 (.agg #[.string ⟨#[]⟩, .slice none 0 0]) 2 40 Tryz.underlying22 hi0 hz0 hz1 hz2 rfl (by decide) (.slice (some ⟨V0.heap.size, 0, none⟩) 0 0) 0 [] (by rfl) own0b dmC_len (D.take D.length) (some a) D.length (by first | rfl | (rw [ht1]; rfl) | (rw [hd1, Nat.sub_self]; rfl)) (fun e => by cases e) (R1.gr G2) (dm_one _) (by unfold maxLen; omega) (by omega) G2.size ?_; intro v1 U1 own1 gr1; have G3 : Gr V0 U1 := G2.grown gr1 (fun b e => (own0b.lt b e).1)
                  refine hK.out (Act.put _ (some 44) v1) _ (by first | exact hold2 G0 c0 c1 | exact hold2 G1 c0 c1 | exact hold2 G2 c0 c1 | exact hold2 G3 c0 c1 | exact hold2 G4 c0 c1 | exact hold2 G5 c0 c1) (fun hHeldN => ?_)
                  clear hHeld hK K
                  have hHeld := hHeldN
                  clear hHeldN
                  simp only [Act.put, List.setIfInBounds_toArray, List.set_cons_zero, List.set_cons_succ]
                  have rxb : RowAt dmC U1 (some ⟨V0.heap.size + 1, 0, none⟩) [(⟨xn, xa, xc, xl⟩ : Dm)] := row_grown rx gr1 (fun a e => by cases e; simp [Value.ownBlock])
                  refine wpAnyH_ready (rs := [7]) (by kernel_rfl) (by simp) (AllReadyH.cons rfl (fun K hK => ?_) AllReadyH.nil)
                  refine step_append_row (by rfl) _ _ 22 (by rfl) V0.heap.size 38 i0 (.agg #[.string ⟨#[]⟩, .slice none 0 0]) 2 40 Tryz.underlying22 hi0 hz0 hz1 hz2 rfl (by decide) v1 (0 + (D.take D.length).length) ([] ++ (D.take D.length).flatMap dmC) (by rfl) own1 dmC_len [(⟨xn, xa, xc, xl⟩ : Dm)] (some ⟨V0.heap.size + 1, 0, none⟩) 1 (by first | rfl | (rw [ht1]; rfl) | (rw [hd1, Nat.sub_self]; rfl)) (fun e => by cases e) rxb (dm_one _) (by unfold maxLen; omega) (by omega) G3.size ?_; intro v2 U2 own2 gr2; have G4 : Gr V0 U2 := G3.grown gr2 (fun b e => (own1.lt b e).1)
                  refine hK.out (Act.put _ (some 47) v2) _ (by first | exact hold2 G0 c0 c1 | exact hold2 G1 c0 c1 | exact hold2 G2 c0 c1 | exact hold2 G3 c0 c1 | exact hold2 G4 c0 c1 | exact hold2 G5 c0 c1) (fun hHeldN => ?_)
                  clear hHeld hK K
                  have hHeld := hHeldN
                  clear hHeldN
                  simp only [Act.put, List.setIfInBounds_toArray, List.set_cons_zero, List.set_cons_succ]
                  refine wpAnyH_ready (rs := [11]) (by kernel_rfl) (by simp) (AllReadyH.cons rfl (fun K hK => ?_) AllReadyH.nil)
                  refine step_append_row (by rfl) _ _ 22 (by rfl) V0.heap.size 38 i0 (.agg #[.string ⟨#[]⟩, .slice none 0 0]) 2 40 Tryz.underlying22 hi0 hz0 hz1 hz2 rfl (by decide) v2 (0 + (D.take D.length).length + [(⟨xn, xa, xc, xl⟩ : Dm)].length) ([] ++ (D.take D.length).flatMap dmC ++ [(⟨xn, xa, xc, xl⟩ : Dm)].flatMap dmC) (by rfl) own2 dmC_len (D.drop D.length) (some a) 0 (by first | rfl | (rw [ht1]; rfl) | (rw [hd1, Nat.sub_self]; rfl)) (fun e => by cases e) (R3.gr G4) (dm_one _) (by unfold maxLen; omega) (by omega) G4.size ?_; intro v3 U3 own3 gr3; have G5 : Gr V0 U3 := G4.grown gr3 (fun b e => (own2.lt b e).1)
                  refine hK.out (Act.put _ (some 51) v3) _ (by first | exact hold2 G0 c0 c1 | exact hold2 G1 c0 c1 | exact hold2 G2 c0 c1 | exact hold2 G3 c0 c1 | exact hold2 G4 c0 c1 | exact hold2 G5 c0 c1) (fun hHeldN => ?_)
                  clear hHeld hK K
                  have hHeld := hHeldN
                  clear hHeldN
                  simp only [Act.put, List.setIfInBounds_toArray, List.set_cons_zero, List.set_cons_succ]
                  refine take_yes 12 4 (v := ?_) rfl rfl (by kernel_rfl) (by kernel_rfl) (by kernel_rfl) (fun _ _ _ h => h) (by rfl) ?_ hHeld ?_
                  rotate_left
                  · (intro w hSw; (try dsimp only at hSw); go_simp; try with_reducible rfl)
                  simp only [Act.put, List.setIfInBounds_toArray, List.set_cons_zero, List.set_cons_succ]
                  refine take_yes 13 5 (v := ?_) rfl rfl (by kernel_rfl) (by kernel_rfl) (by kernel_rfl) (fun _ _ _ h => h) (by rfl) ?_ hHeld ?_
                  rotate_left
                  · (intro w hSw; (try dsimp only at hSw); go_simp; try with_reducible rfl)
                  simp only [Act.put, List.setIfInBounds_toArray, List.set_cons_zero, List.set_cons_succ]
                  refine wpAnyH_done (by kernel_rfl) ?_ _
                  obtain ⟨a5, q5, D5, e5, b5, n5, l5, m5, i5, j5, k5, g5⟩ := HFin.out _ _ own3 G5
                  subst e5
                  have HF5 := Lib.hid b5
                  have HI5 := Lib.hid i5
                  have HJ5 := Lib.hid j5
                  have HK5 := Lib.hid k5
                  have HG5 := Lib.hid g5
                  clear b5 i5 j5 k5 g5 own3 HFin
                  go_wp2
                  go_ret2
                  exact Or.inr ⟨HP0.out, a5, q5, D5, rfl, HF5.out, n5, l5, m5, HI5.out, HJ5.out, HK5.out, HG5.out⟩
              · have G1 : Gr V0 (V0.drew.alloc (.cells #[.string xn, .slice xa xl.length xc] 38)) := G0.alloc
                have rx : RowAt dmC (V0.drew.alloc (.cells #[.string xn, .slice xa xl.length xc] 38)) (some ⟨V0.heap.size, 0, none⟩) [(⟨xn, xa, xc, xl⟩ : Dm)] := row_new V0.drew xn xa xc xl 38
                go_simp
                refine hK.out _ _ (by first | exact hold2 G0 c0 c1 | exact hold2 G1 c0 c1 | exact hold2 G2 c0 c1 | exact hold2 G3 c0 c1 | exact hold2 G4 c0 c1 | exact hold2 G5 c0 c1) (fun hHeldN => ?_)
                clear hHeld hK K
                have hHeld := hHeldN
                clear hHeldN
                have G2 : Gr V0 ((V0.drew.alloc (.cells #[.string xn, .slice xa xl.length xc] 38)).alloc (.cells #[] 38)) := G1.alloc
                have own0 : World.ownsRow ((V0.drew.alloc (.cells #[.string xn, .slice xa xl.length xc] 38)).alloc (.cells #[] 38)) V0.heap.size 38 2 (.slice (some ⟨V0.heap.size + 1, 0, none⟩) 0 0) 0 [] := by have := World.ownsRow_lit (V0.drew.alloc (.cells #[.string xn, .slice xa xl.length xc] 38)) #[] 0 (base := V0.heap.size) (e := 38) (size := 2) G1.size (by unfold maxLen; omega) rfl; simpa using this
                have rx2 := rx.gr ((Gr.refl (V0.drew.alloc (.cells #[.string xn, .slice xa xl.length xc] 38))).alloc (o := .cells #[] 38))
                refine wpAnyH_ready (rs := [0]) (by kernel_rfl) (by simp) (AllReadyH.cons rfl (fun K hK => ?_) AllReadyH.nil)
                go_simp
                refine hK.out _ _ (by first | exact hold2 G0 c0 c1 | exact hold2 G1 c0 c1 | exact hold2 G2 c0 c1 | exact hold2 G3 c0 c1 | exact hold2 G4 c0 c1 | exact hold2 G5 c0 c1) (fun hHeldN => ?_)
                clear hHeld hK K
                have hHeld := hHeldN
                clear hHeldN
                refine wpAnyH_ready (rs := [4]) (by kernel_rfl) (by simp) (AllReadyH.cons rfl (fun K hK => ?_) AllReadyH.nil)
                refine step_append_row (by rfl) _ _ 22 (by rfl) V0.heap.size 38 i0 (.agg #[.string ⟨#[]⟩, .slice none 0 0]) 2 40 Tryz.underlying22 hi0 hz0 hz1 hz2 rfl (by decide) (.slice (some ⟨V0.heap.size + 1, 0, none⟩) 0 0) 0 [] (by rfl) own0 dmC_len (D.take D.length) (some a) D.length (by first | rfl | (rw [ht1]; rfl) | (rw [hd1, Nat.sub_self]; rfl)) (fun e => by cases e) (R1.gr G2) (dm_one _) (by unfold maxLen; omega) (by omega) G2.size ?_; intro v1 U1 own1 gr1; have G3 : Gr V0 U1 := G2.grown gr1 (fun b e => (own0.lt b e).1)
                refine hK.out (Act.put _ (some 44) v1) _ (by first | exact hold2 G0 c0 c1 | exact hold2 G1 c0 c1 | exact hold2 G2 c0 c1 | exact hold2 G3 c0 c1 | exact hold2 G4 c0 c1 | exact hold2 G5 c0 c1) (fun hHeldN => ?_)
                clear hHeld hK K
                have hHeld := hHeldN
                clear hHeldN
                simp only [Act.put, List.setIfInBounds_toArray, List.set_cons_zero, List.set_cons_succ]
                have rxb : RowAt dmC U1 (some ⟨V0.heap.size, 0, none⟩) [(⟨xn, xa, xc, xl⟩ : Dm)] := row_grown rx2 gr1 (fun a e => by cases e; simp [Value.ownBlock])
                refine wpAnyH_ready (rs := [7]) (by kernel_rfl) (by simp) (AllReadyH.cons rfl (fun K hK => ?_) AllReadyH.nil)
                refine step_append_row (by rfl) _ _ 22 (by rfl) V0.heap.size 38 i0 (.agg #[.string ⟨#[]⟩, .slice none 0 0]) 2 40 Tryz.underlying22 hi0 hz0 hz1 hz2 rfl (by decide) v1 (0 + (D.take D.length).length) ([] ++ (D.take D.length).flatMap dmC) (by rfl) own1 dmC_len [(⟨xn, xa, xc, xl⟩ : Dm)] (some ⟨V0.heap.size, 0, none⟩) 1 (by first | rfl | (rw [ht1]; rfl) | (rw [hd1, Nat.sub_self]; rfl)) (fun e => by cases e) rxb (dm_one _) (by unfold maxLen; omega) (by omega) G3.size ?_; intro v2 U2 own2 gr2; have G4 : Gr V0 U2 := G3.grown gr2 (fun b e => (own1.lt b e).1)
                refine hK.out (Act.put _ (some 47) v2) _ (by first | exact hold2 G0 c0 c1 | exact hold2 G1 c0 c1 | exact hold2 G2 c0 c1 | exact hold2 G3 c0 c1 | exact hold2 G4 c0 c1 | exact hold2 G5 c0 c1) (fun hHeldN => ?_)
                clear hHeld hK K
                have hHeld := hHeldN
                clear hHeldN
                simp only [Act.put, List.setIfInBounds_toArray, List.set_cons_zero, List.set_cons_succ]
                refine wpAnyH_ready (rs := [11]) (by kernel_rfl) (by simp) (AllReadyH.cons rfl (fun K hK => ?_) AllReadyH.nil)
                refine step_append_row (by rfl) _ _ 22 (by rfl) V0.heap.size 38 i0 (.agg #[.string ⟨#[]⟩, .slice none 0 0]) 2 40 Tryz.underlying22 hi0 hz0 hz1 hz2 rfl (by decide) v2 (0 + (D.take D.length).length + [(⟨xn, xa, xc, xl⟩ : Dm)].length) ([] ++ (D.take D.length).flatMap dmC ++ [(⟨xn, xa, xc, xl⟩ : Dm)].flatMap dmC) (by rfl) own2 dmC_len (D.drop D.length) (some a) 0 (by first | rfl | (rw [ht1]; rfl) | (rw [hd1, Nat.sub_self]; rfl)) (fun e => by cases e) (R3.gr G4) (dm_one _) (by unfold maxLen; omega) (by omega) G4.size ?_; intro v3 U3 own3 gr3; have G5 : Gr V0 U3 := G4.grown gr3 (fun b e => (own2.lt b e).1)
                refine hK.out (Act.put _ (some 51) v3) _ (by first | exact hold2 G0 c0 c1 | exact hold2 G1 c0 c1 | exact hold2 G2 c0 c1 | exact hold2 G3 c0 c1 | exact hold2 G4 c0 c1 | exact hold2 G5 c0 c1) (fun hHeldN => ?_)
                clear hHeld hK K
                have hHeld := hHeldN
                clear hHeldN
                simp only [Act.put, List.setIfInBounds_toArray, List.set_cons_zero, List.set_cons_succ]
                refine take_yes 12 4 (v := ?_) rfl rfl (by kernel_rfl) (by kernel_rfl) (by kernel_rfl) (fun _ _ _ h => h) (by rfl) ?_ hHeld ?_
                rotate_left
                · (intro w hSw; (try dsimp only at hSw); go_simp; try with_reducible rfl)
                simp only [Act.put, List.setIfInBounds_toArray, List.set_cons_zero, List.set_cons_succ]
                refine take_yes 13 5 (v := ?_) rfl rfl (by kernel_rfl) (by kernel_rfl) (by kernel_rfl) (fun _ _ _ h => h) (by rfl) ?_ hHeld ?_
                rotate_left
                · (intro w hSw; (try dsimp only at hSw); go_simp; try with_reducible rfl)
                simp only [Act.put, List.setIfInBounds_toArray, List.set_cons_zero, List.set_cons_succ]
                refine wpAnyH_done (by kernel_rfl) ?_ _
                obtain ⟨a5, q5, D5, e5, b5, n5, l5, m5, i5, j5, k5, g5⟩ := HFin.out _ _ own3 G5
                subst e5
                have HF5 := Lib.hid b5
                have HI5 := Lib.hid i5
                have HJ5 := Lib.hid j5
                have HK5 := Lib.hid k5
                have HG5 := Lib.hid g5
                clear b5 i5 j5 k5 g5 own3 HFin
                go_wp2
                go_ret2
                exact Or.inr ⟨HP0.out, a5, q5, D5, rfl, HF5.out, n5, l5, m5, HI5.out, HJ5.out, HK5.out, HG5.out⟩
          · obtain rfl : p = D.length := hpe
            by_cases h8 : 8 ≤ D.length
            · have HP3 : Hid (Bk.putE (dns D) (⟨xn, xa, xc, xl⟩ : Dm).dn = 3) := by show _ = _; rw [HE.out, if_neg (by decide), if_pos h8]
              obtain e8 : D.length = 8 := by omega
              have h8i : ((D.length : Int) == 8) = true := by rw [e8]; rfl
              clear e8 h8
              go_wp2
              go_ret2
              exact Or.inl ⟨by rw [HP3.out]; decide, by (rw [HP3.out]) <;> rfl, HGT.out⟩
            · have HP0 : Hid (Bk.putE (dns D) (⟨xn, xa, xc, xl⟩ : Dm).dn = 0) := by show _ = _; rw [HE.out, if_neg (by decide), if_neg h8]
              have h8i : ((D.length : Int) == 8) = false := by rw [beq_eq_false_iff_ne]; omega
              clear h8
              have ht1 : (D.take D.length).length = D.length := by rw [List.length_take]; omega
              have hd1 : (D.drop D.length).length = D.length - D.length := List.length_drop
              have hs1 : [(⟨xn, xa, xc, xl⟩ : Dm)].length = 1 := rfl
              obtain ⟨V0, hV0⟩ : ∃ V0, V0 = wr.drew.drew := ⟨_, rfl⟩
              have HBV := Lib.hid (HB.out.gr (HGT.out))
              have HSV := Lib.hid (HS.out.gr (HGT.out))
              have c0 : (wr.drew.drew).cell? ⟨w.heap.size, 0, none⟩ = some (.string xn) := c0
              have c1 : (wr.drew.drew).cell? ⟨w.heap.size, 1, none⟩ = some (.slice xa xl.length xc) := c1
              rw [← hV0] at HGT HBV HSV c0 c1 ⊢
              clear hV0 HX0 HG HGW HHas HHasN HPos
              have R1 : RowAt dmC V0 (some a) (D.take D.length) := row_take dmC_len HBV.out.row D.length hpl
              have R3 : RowAt dmC V0 (some (a.add (D.length * 2))) (D.drop D.length) := by rw [hnil]; exact RowAt.nil
              have HFin : Hid (∀ v3 U3, World.ownsRow U3 V0.heap.size 38 2 v3 (0 + (D.take D.length).length + [(⟨xn, xa, xc, xl⟩ : Dm)].length + (D.drop D.length).length) ([] ++ (D.take D.length).flatMap dmC ++ [(⟨xn, xa, xc, xl⟩ : Dm)].flatMap dmC ++ (D.drop D.length).flatMap dmC) → Gr V0 U3 → ∃ a c D', v3 = .slice a D'.length c ∧ BkAt U3 a D' ∧ (a = none → c = 0) ∧ D'.length ≤ c ∧ c ≤ 9223372036854775807 ∧ dns D' = Bk.ins (dns D) (⟨xn, xa, xc, xl⟩ : Dm).dn ∧ (∀ d ∈ D', d ∈ D ∨ d = ⟨xn, xa, xc, xl⟩) ∧ (∀ p, a = some p → w.heap.size ≤ p.block) ∧ Gr w U3) := by
                intro v3 U3 ho g
                have ho2 : World.ownsRow U3 V0.heap.size 38 2 v3 (D.take D.length ++ [(⟨xn, xa, xc, xl⟩ : Dm)] ++ D.drop D.length).length ((D.take D.length ++ [(⟨xn, xa, xc, xl⟩ : Dm)] ++ D.drop D.length).flatMap dmC) := by
                  rw [List.flatMap_append, List.flatMap_append, List.length_append, List.length_append]
                  rw [List.nil_append, Nat.zero_add] at ho
                  exact ho
                obtain ⟨a', c', e', hl', hc', row', hbs, hno⟩ := own_row ho2
                have hmem : ∀ d ∈ D.take D.length ++ [(⟨xn, xa, xc, xl⟩ : Dm)] ++ D.drop D.length, d ∈ D ∨ d = ⟨xn, xa, xc, xl⟩ := by
                  intro d hd
                  rcases List.mem_append.1 hd with hd | hd
                  · rcases List.mem_append.1 hd with hd | hd
                    · exact Or.inl (List.mem_of_mem_take hd)
                    · exact Or.inr (List.mem_singleton.1 hd)
                  · exact Or.inl (List.mem_of_mem_drop hd)
                refine ⟨a', c', _, e', ⟨row', fun d hd => ?_, fun d hd => ?_⟩, hno, hl', hc', HIns.out, hmem, fun q e => Nat.le_trans HGT.out.size (hbs q e), HGT.out.trans g⟩
                · rcases List.mem_append.1 hd with hd | hd
                  · rcases List.mem_append.1 hd with hd | hd
                    · exact (HBV.out.st d (List.mem_of_mem_take hd)).gr g
                    · rw [List.mem_singleton] at hd; subst hd; exact HSV.out.gr g
                  · exact (HBV.out.st d (List.mem_of_mem_drop hd)).gr g
                · rcases List.mem_append.1 hd with hd | hd
                  · rcases List.mem_append.1 hd with hd | hd
                    · exact HBV.out.rng d (List.mem_of_mem_take hd)
                    · rw [List.mem_singleton] at hd; subst hd; exact HXi.out
                  · exact HBV.out.rng d (List.mem_of_mem_drop hd)
              have hcp2 : ¬ cap = D.length := hcp
              clear hnil hge
              go_wp2_with fail
              have G0 : Gr V0 V0.drew := (Gr.refl V0).drew
              refine wp_region_held_drew (S := (fun w' => Gr V0 w' ∧ w'.cell? ⟨w.heap.size, 0, none⟩ = some (.string xn) ∧ w'.cell? ⟨w.heap.size, 1, none⟩ = some (.slice xa xl.length xc))) (by kernel_rfl) (by first | exact hold2 G0 c0 c1 | exact hold2 G1 c0 c1 | exact hold2 G2 c0 c1 | exact hold2 G3 c0 c1 | exact hold2 G4 c0 c1 | exact hold2 G5 c0 c1) (fun hHeld => ?_)
              refine take_yes 1 41 (v := ?_) rfl rfl (by kernel_rfl) (by kernel_rfl) (by kernel_rfl) (fun _ _ _ h => h) (by rfl) ?_ hHeld ?_
              rotate_left
              · (intro w hSw; (try dsimp only at hSw); go_simp; try with_reducible rfl)
              simp only [Act.put, List.setIfInBounds_toArray, List.set_cons_zero, List.set_cons_succ]
              refine take_yes 2 42 (v := ?_) rfl rfl (by kernel_rfl) (by kernel_rfl) (by kernel_rfl) (fun _ _ _ h => h) (by rfl) ?_ hHeld ?_
              rotate_left
              · (intro w hSw; (try dsimp only at hSw); go_simp; try with_reducible rfl)
              simp only [Act.put, List.setIfInBounds_toArray, List.set_cons_zero, List.set_cons_succ]
              refine take_yes 3 43 (v := ?_) rfl rfl (by kernel_rfl) (by kernel_rfl) (by kernel_rfl) (fun _ _ _ h => h) (by rfl) ?_ hHeld ?_
              rotate_left
              · (intro w hSw; (try dsimp only at hSw); go_simp; try with_reducible rfl)
              simp only [Act.put, List.setIfInBounds_toArray, List.set_cons_zero, List.set_cons_succ]
              refine take_yes 5 45 (v := ?_) rfl rfl (by kernel_rfl) (by kernel_rfl) (by kernel_rfl) (fun _ _ _ h => h) (by rfl) ?_ hHeld ?_
              rotate_left
              · (intro w hSw; (try dsimp only at hSw); go_simp; try with_reducible rfl)
              simp only [Act.put, List.setIfInBounds_toArray, List.set_cons_zero, List.set_cons_succ]
              refine take_yes 8 48 (v := ?_) rfl rfl (by kernel_rfl) (by kernel_rfl) (by kernel_rfl) (fun _ _ _ h => h) (by rfl) ?_ hHeld ?_
              rotate_left
              · (intro w hSw; (try dsimp only at hSw); go_simp; try with_reducible rfl)
              simp only [Act.put, List.setIfInBounds_toArray, List.set_cons_zero, List.set_cons_succ]
              refine take_yes 9 49 (v := ?_) rfl rfl (by kernel_rfl) (by kernel_rfl) (by kernel_rfl) (fun _ _ _ h => h) (by rfl) ?_ hHeld ?_
              rotate_left
              · (intro w hSw; (try dsimp only at hSw); go_simp; try with_reducible rfl)
              simp only [Act.put, List.setIfInBounds_toArray, List.set_cons_zero, List.set_cons_succ]
              refine take_yes 10 50 (v := ?_) rfl rfl (by kernel_rfl) (by kernel_rfl) (by kernel_rfl) (fun _ _ _ h => h) (by rfl) ?_ hHeld ?_
              rotate_left
              · (intro w hSw; (try dsimp only at hSw); go_simp; try with_reducible rfl)
              simp only [Act.put, List.setIfInBounds_toArray, List.set_cons_zero, List.set_cons_succ]
              refine wpAnyH_ready (rs := [0, 6]) (by kernel_rfl) (by simp) (AllReadyH.cons rfl (fun K hK => ?_) (AllReadyH.cons rfl (fun K hK => ?_) AllReadyH.nil))
              · have G1 : Gr V0 (V0.drew.alloc (.cells #[] 38)) := G0.alloc
                have own0 : World.ownsRow (V0.drew.alloc (.cells #[] 38)) V0.heap.size 38 2 (.slice (some ⟨V0.heap.size, 0, none⟩) 0 0) 0 [] := World.ownsRow_lit V0.drew #[] 0 G0.size (by unfold maxLen; omega) rfl
                go_simp
                refine hK.out _ _ (by first | exact hold2 G0 c0 c1 | exact hold2 G1 c0 c1 | exact hold2 G2 c0 c1 | exact hold2 G3 c0 c1 | exact hold2 G4 c0 c1 | exact hold2 G5 c0 c1) (fun hHeldN => ?_)
                clear hHeld hK K
                have hHeld := hHeldN
                clear hHeldN
                refine wpAnyH_ready (rs := [4, 6]) (by kernel_rfl) (by simp) (AllReadyH.cons rfl (fun K hK => ?_) (AllReadyH.cons rfl (fun K hK => ?_) AllReadyH.nil))
                · skip
                  refine step_append_row (by rfl) _ _ 22 (by rfl) V0.heap.size 38 i0 (.agg #[.string ⟨#[]⟩, .slice none 0 0]) 2 40 Tryz.underlying22 hi0 hz0 hz1 hz2 rfl (by decide) (.slice (some ⟨V0.heap.size, 0, none⟩) 0 0) 0 [] (by rfl) own0 dmC_len (D.take D.length) (some a) cap (by first | rfl | (rw [ht1]; rfl) | (rw [hd1, Nat.sub_self]; rfl)) (fun e => by cases e) (R1.gr G1) (dm_one _) (by unfold maxLen; omega) (by omega) G1.size ?_; intro v1 U1 own1 gr1; have G2 : Gr V0 U1 := G1.grown gr1 (fun b e => (own0.lt b e).1)
                  refine hK.out (Act.put _ (some 44) v1) _ (by first | exact hold2 G0 c0 c1 | exact hold2 G1 c0 c1 | exact hold2 G2 c0 c1 | exact hold2 G3 c0 c1 | exact hold2 G4 c0 c1 | exact hold2 G5 c0 c1) (fun hHeldN => ?_)
                  clear hHeld hK K
                  have hHeld := hHeldN
                  clear hHeldN
                  simp only [Act.put, List.setIfInBounds_toArray, List.set_cons_zero, List.set_cons_succ]
                  have G3 : Gr V0 (U1.alloc (.cells #[.string xn, .slice xa xl.length xc] 38)) := G2.alloc
                  have rx : RowAt dmC (U1.alloc (.cells #[.string xn, .slice xa xl.length xc] 38)) (some ⟨U1.heap.size, 0, none⟩) [(⟨xn, xa, xc, xl⟩ : Dm)] := row_new _ _ _ _ _ _
                  have own1b := own_gr2 own1 ((Gr.refl U1).alloc (o := (.cells #[.string xn, .slice xa xl.length xc] 38)))
                  refine wpAnyH_ready (rs := [6]) (by kernel_rfl) (by simp) (AllReadyH.cons rfl (fun K hK => ?_) AllReadyH.nil)
                  go_simp
                  refine hK.out _ _ (by first | exact hold2 G0 c0 c1 | exact hold2 G1 c0 c1 | exact hold2 G2 c0 c1 | exact hold2 G3 c0 c1 | exact hold2 G4 c0 c1 | exact hold2 G5 c0 c1) (fun hHeldN => ?_)
                  clear hHeld hK K
                  have hHeld := hHeldN
                  clear hHeldN
                  refine wpAnyH_ready (rs := [7]) (by kernel_rfl) (by simp) (AllReadyH.cons rfl (fun K hK => ?_) AllReadyH.nil)
                  refine step_append_row (by rfl) _ _ 22 (by rfl) V0.heap.size 38 i0 (.agg #[.string ⟨#[]⟩, .slice none 0 0]) 2 40 Tryz.underlying22 hi0 hz0 hz1 hz2 rfl (by decide) v1 (0 + (D.take D.length).length) ([] ++ (D.take D.length).flatMap dmC) (by rfl) own1b dmC_len [(⟨xn, xa, xc, xl⟩ : Dm)] (some ⟨U1.heap.size, 0, none⟩) 1 (by first | rfl | (rw [ht1]; rfl) | (rw [hd1, Nat.sub_self]; rfl)) (fun e => by cases e) rx (dm_one _) (by unfold maxLen; omega) (by omega) G3.size ?_; intro v2 U2 own2 gr2; have G4 : Gr V0 U2 := G3.grown gr2 (fun b e => (own1b.lt b e).1)
                  refine hK.out (Act.put _ (some 47) v2) _ (by first | exact hold2 G0 c0 c1 | exact hold2 G1 c0 c1 | exact hold2 G2 c0 c1 | exact hold2 G3 c0 c1 | exact hold2 G4 c0 c1 | exact hold2 G5 c0 c1) (fun hHeldN => ?_)
                  clear hHeld hK K
                  have hHeld := hHeldN
                  clear hHeldN
                  simp only [Act.put, List.setIfInBounds_toArray, List.set_cons_zero, List.set_cons_succ]
                  refine wpAnyH_ready (rs := [11]) (by kernel_rfl) (by simp) (AllReadyH.cons rfl (fun K hK => ?_) AllReadyH.nil)
                  refine step_append_row (by rfl) _ _ 22 (by rfl) V0.heap.size 38 i0 (.agg #[.string ⟨#[]⟩, .slice none 0 0]) 2 40 Tryz.underlying22 hi0 hz0 hz1 hz2 rfl (by decide) v2 (0 + (D.take D.length).length + [(⟨xn, xa, xc, xl⟩ : Dm)].length) ([] ++ (D.take D.length).flatMap dmC ++ [(⟨xn, xa, xc, xl⟩ : Dm)].flatMap dmC) (by rfl) own2 dmC_len (D.drop D.length) (some (a.add (D.length * 2))) (cap - D.length) (by first | rfl | (rw [ht1]; rfl) | (rw [hd1, Nat.sub_self]; rfl)) (fun e => by cases e) (R3.gr G4) (dm_one _) (by unfold maxLen; omega) (by omega) G4.size ?_; intro v3 U3 own3 gr3; have G5 : Gr V0 U3 := G4.grown gr3 (fun b e => (own2.lt b e).1)
                  refine hK.out (Act.put _ (some 51) v3) _ (by first | exact hold2 G0 c0 c1 | exact hold2 G1 c0 c1 | exact hold2 G2 c0 c1 | exact hold2 G3 c0 c1 | exact hold2 G4 c0 c1 | exact hold2 G5 c0 c1) (fun hHeldN => ?_)
                  clear hHeld hK K
                  have hHeld := hHeldN
                  clear hHeldN
                  simp only [Act.put, List.setIfInBounds_toArray, List.set_cons_zero, List.set_cons_succ]
                  refine take_yes 12 4 (v := ?_) rfl rfl (by kernel_rfl) (by kernel_rfl) (by kernel_rfl) (fun _ _ _ h => h) (by rfl) ?_ hHeld ?_
                  rotate_left
                  · (intro w hSw; (try dsimp only at hSw); go_simp; try with_reducible rfl)
                  simp only [Act.put, List.setIfInBounds_toArray, List.set_cons_zero, List.set_cons_succ]
                  refine take_yes 13 5 (v := ?_) rfl rfl (by kernel_rfl) (by kernel_rfl) (by kernel_rfl) (fun _ _ _ h => h) (by rfl) ?_ hHeld ?_
                  rotate_left
                  · (intro w hSw; (try dsimp only at hSw); go_simp; try with_reducible rfl)
                  simp only [Act.put, List.setIfInBounds_toArray, List.set_cons_zero, List.set_cons_succ]
                  refine wpAnyH_done (by kernel_rfl) ?_ _
                  obtain ⟨a5, q5, D5, e5, b5, n5, l5, m5, i5, j5, k5, g5⟩ := HFin.out _ _ own3 G5
                  subst e5
                  have HF5 := Lib.hid b5
                  have HI5 := Lib.hid i5
                  have HJ5 := Lib.hid j5
                  have HK5 := Lib.hid k5
                  have HG5 := Lib.hid g5
                  clear b5 i5 j5 k5 g5 own3 HFin
                  go_wp2
                  go_ret2
                  exact Or.inr ⟨HP0.out, a5, q5, D5, rfl, HF5.out, n5, l5, m5, HI5.out, HJ5.out, HK5.out, HG5.out⟩
                · have G2 : Gr V0 ((V0.drew.alloc (.cells #[] 38)).alloc (.cells #[.string xn, .slice xa xl.length xc] 38)) := G1.alloc
                  have rx : RowAt dmC ((V0.drew.alloc (.cells #[] 38)).alloc (.cells #[.string xn, .slice xa xl.length xc] 38)) (some ⟨V0.heap.size + 1, 0, none⟩) [(⟨xn, xa, xc, xl⟩ : Dm)] := by have := row_new (V0.drew.alloc (.cells #[] 38)) xn xa xc xl 38; simpa using this
                  have own0b := own_gr2 own0 ((Gr.refl (V0.drew.alloc (.cells #[] 38))).alloc (o := (.cells #[.string xn, .slice xa xl.length xc] 38)))
                  go_simp
                  refine hK.out _ _ (by first | exact hold2 G0 c0 c1 | exact hold2 G1 c0 c1 | exact hold2 G2 c0 c1 | exact hold2 G3 c0 c1 | exact hold2 G4 c0 c1 | exact hold2 G5 c0 c1) (fun hHeldN => ?_)
                  clear hHeld hK K
                  have hHeld := hHeldN
                  clear hHeldN
                  refine wpAnyH_ready (rs := [4]) (by kernel_rfl) (by simp) (AllReadyH.cons rfl (fun K hK => ?_) AllReadyH.nil)
                  refine step_append_row (by rfl) _ _ 22 (by rfl) V0.heap.size 38 i0 (.agg #[.string ⟨#[]⟩, .slice none 0 0]) 2 40 Tryz.underlying22 hi0 hz0 hz1 hz2 rfl (by decide) (.slice (some ⟨V0.heap.size, 0, none⟩) 0 0) 0 [] (by rfl) own0b dmC_len (D.take D.length) (some a) cap (by first | rfl | (rw [ht1]; rfl) | (rw [hd1, Nat.sub_self]; rfl)) (fun e => by cases e) (R1.gr G2) (dm_one _) (by unfold maxLen; omega) (by omega) G2.size ?_; intro v1 U1 own1 gr1; have G3 : Gr V0 U1 := G2.grown gr1 (fun b e => (own0b.lt b e).1)
                  refine hK.out (Act.put _ (some 44) v1) _ (by first | exact hold2 G0 c0 c1 | exact hold2 G1 c0 c1 | exact hold2 G2 c0 c1 | exact hold2 G3 c0 c1 | exact hold2 G4 c0 c1 | exact hold2 G5 c0 c1) (fun hHeldN => ?_)
                  clear hHeld hK K
                  have hHeld := hHeldN
                  clear hHeldN
                  simp only [Act.put, List.setIfInBounds_toArray, List.set_cons_zero, List.set_cons_succ]
                  have rxb : RowAt dmC U1 (some ⟨V0.heap.size + 1, 0, none⟩) [(⟨xn, xa, xc, xl⟩ : Dm)] := row_grown rx gr1 (fun a e => by cases e; simp [Value.ownBlock])
                  refine wpAnyH_ready (rs := [7]) (by kernel_rfl) (by simp) (AllReadyH.cons rfl (fun K hK => ?_) AllReadyH.nil)
                  refine step_append_row (by rfl) _ _ 22 (by rfl) V0.heap.size 38 i0 (.agg #[.string ⟨#[]⟩, .slice none 0 0]) 2 40 Tryz.underlying22 hi0 hz0 hz1 hz2 rfl (by decide) v1 (0 + (D.take D.length).length) ([] ++ (D.take D.length).flatMap dmC) (by rfl) own1 dmC_len [(⟨xn, xa, xc, xl⟩ : Dm)] (some ⟨V0.heap.size + 1, 0, none⟩) 1 (by first | rfl | (rw [ht1]; rfl) | (rw [hd1, Nat.sub_self]; rfl)) (fun e => by cases e) rxb (dm_one _) (by unfold maxLen; omega) (by omega) G3.size ?_; intro v2 U2 own2 gr2; have G4 : Gr V0 U2 := G3.grown gr2 (fun b e => (own1.lt b e).1)
                  refine hK.out (Act.put _ (some 47) v2) _ (by first | exact hold2 G0 c0 c1 | exact hold2 G1 c0 c1 | exact hold2 G2 c0 c1 | exact hold2 G3 c0 c1 | exact hold2 G4 c0 c1 | exact hold2 G5 c0 c1) (fun hHeldN => ?_)
                  clear hHeld hK K
                  have hHeld := hHeldN
                  clear hHeldN
                  simp only [Act.put, List.setIfInBounds_toArray, List.set_cons_zero, List.set_cons_succ]
                  refine wpAnyH_ready (rs := [11]) (by kernel_rfl) (by simp) (AllReadyH.cons rfl (fun K hK => ?_) AllReadyH.nil)
                  refine step_append_row (by rfl) _ _ 22 (by rfl) V0.heap.size 38 i0 (.agg #[.string ⟨#[]⟩, .slice none 0 0]) 2 40 Tryz.underlying22 hi0 hz0 hz1 hz2 rfl (by decide) v2 (0 + (D.take D.length).length + [(⟨xn, xa, xc, xl⟩ : Dm)].length) ([] ++ (D.take D.length).flatMap dmC ++ [(⟨xn, xa, xc, xl⟩ : Dm)].flatMap dmC) (by rfl) own2 dmC_len (D.drop D.length) (some (a.add (D.length * 2))) (cap - D.length) (by first | rfl | (rw [ht1]; rfl) | (rw [hd1, Nat.sub_self]; rfl)) (fun e => by cases e) (R3.gr G4) (dm_one _) (by unfold maxLen; omega) (by omega) G4.size ?_; intro v3 U3 own3 gr3; have G5 : Gr V0 U3 := G4.grown gr3 (fun b e => (own2.lt b e).1)
                  refine hK.out (Act.put _ (some 51) v3) _ (by first | exact hold2 G0 c0 c1 | exact hold2 G1 c0 c1 | exact hold2 G2 c0 c1 | exact hold2 G3 c0 c1 | exact hold2 G4 c0 c1 | exact hold2 G5 c0 c1) (fun hHeldN => ?_)
                  clear hHeld hK K
                  have hHeld := hHeldN
                  clear hHeldN
                  simp only [Act.put, List.setIfInBounds_toArray, List.set_cons_zero, List.set_cons_succ]
                  refine take_yes 12 4 (v := ?_) rfl rfl (by kernel_rfl) (by kernel_rfl) (by kernel_rfl) (fun _ _ _ h => h) (by rfl) ?_ hHeld ?_
                  rotate_left
                  · (intro w hSw; (try dsimp only at hSw); go_simp; try with_reducible rfl)
                  simp only [Act.put, List.setIfInBounds_toArray, List.set_cons_zero, List.set_cons_succ]
                  refine take_yes 13 5 (v := ?_) rfl rfl (by kernel_rfl) (by kernel_rfl) (by kernel_rfl) (fun _ _ _ h => h) (by rfl) ?_ hHeld ?_
                  rotate_left
                  · (intro w hSw; (try dsimp only at hSw); go_simp; try with_reducible rfl)
                  simp only [Act.put, List.setIfInBounds_toArray, List.set_cons_zero, List.set_cons_succ]
                  refine wpAnyH_done (by kernel_rfl) ?_ _
                  obtain ⟨a5, q5, D5, e5, b5, n5, l5, m5, i5, j5, k5, g5⟩ := HFin.out _ _ own3 G5
                  subst e5
                  have HF5 := Lib.hid b5
                  have HI5 := Lib.hid i5
                  have HJ5 := Lib.hid j5
                  have HK5 := Lib.hid k5
                  have HG5 := Lib.hid g5
                  clear b5 i5 j5 k5 g5 own3 HFin
                  go_wp2
                  go_ret2
                  exact Or.inr ⟨HP0.out, a5, q5, D5, rfl, HF5.out, n5, l5, m5, HI5.out, HJ5.out, HK5.out, HG5.out⟩
              · have G1 : Gr V0 (V0.drew.alloc (.cells #[.string xn, .slice xa xl.length xc] 38)) := G0.alloc
                have rx : RowAt dmC (V0.drew.alloc (.cells #[.string xn, .slice xa xl.length xc] 38)) (some ⟨V0.heap.size, 0, none⟩) [(⟨xn, xa, xc, xl⟩ : Dm)] := row_new V0.drew xn xa xc xl 38
                go_simp
                refine hK.out _ _ (by first | exact hold2 G0 c0 c1 | exact hold2 G1 c0 c1 | exact hold2 G2 c0 c1 | exact hold2 G3 c0 c1 | exact hold2 G4 c0 c1 | exact hold2 G5 c0 c1) (fun hHeldN => ?_)
                clear hHeld hK K
                have hHeld := hHeldN
                clear hHeldN
                have G2 : Gr V0 ((V0.drew.alloc (.cells #[.string xn, .slice xa xl.length xc] 38)).alloc (.cells #[] 38)) := G1.alloc
                have own0 : World.ownsRow ((V0.drew.alloc (.cells #[.string xn, .slice xa xl.length xc] 38)).alloc (.cells #[] 38)) V0.heap.size 38 2 (.slice (some ⟨V0.heap.size + 1, 0, none⟩) 0 0) 0 [] := by have := World.ownsRow_lit (V0.drew.alloc (.cells #[.string xn, .slice xa xl.length xc] 38)) #[] 0 (base := V0.heap.size) (e := 38) (size := 2) G1.size (by unfold maxLen; omega) rfl; simpa using this
                have rx2 := rx.gr ((Gr.refl (V0.drew.alloc (.cells #[.string xn, .slice xa xl.length xc] 38))).alloc (o := .cells #[] 38))
                refine wpAnyH_ready (rs := [0]) (by kernel_rfl) (by simp) (AllReadyH.cons rfl (fun K hK => ?_) AllReadyH.nil)
                go_simp
                refine hK.out _ _ (by first | exact hold2 G0 c0 c1 | exact hold2 G1 c0 c1 | exact hold2 G2 c0 c1 | exact hold2 G3 c0 c1 | exact hold2 G4 c0 c1 | exact hold2 G5 c0 c1) (fun hHeldN => ?_)
                clear hHeld hK K
                have hHeld := hHeldN
                clear hHeldN
                refine wpAnyH_ready (rs := [4]) (by kernel_rfl) (by simp) (AllReadyH.cons rfl (fun K hK => ?_) AllReadyH.nil)
                refine step_append_row (by rfl) _ _ 22 (by rfl) V0.heap.size 38 i0 (.agg #[.string ⟨#[]⟩, .slice none 0 0]) 2 40 Tryz.underlying22 hi0 hz0 hz1 hz2 rfl (by decide) (.slice (some ⟨V0.heap.size + 1, 0, none⟩) 0 0) 0 [] (by rfl) own0 dmC_len (D.take D.length) (some a) cap (by first | rfl | (rw [ht1]; rfl) | (rw [hd1, Nat.sub_self]; rfl)) (fun e => by cases e) (R1.gr G2) (dm_one _) (by unfold maxLen; omega) (by omega) G2.size ?_; intro v1 U1 own1 gr1; have G3 : Gr V0 U1 := G2.grown gr1 (fun b e => (own0.lt b e).1)
                refine hK.out (Act.put _ (some 44) v1) _ (by first | exact hold2 G0 c0 c1 | exact hold2 G1 c0 c1 | exact hold2 G2 c0 c1 | exact hold2 G3 c0 c1 | exact hold2 G4 c0 c1 | exact hold2 G5 c0 c1) (fun hHeldN => ?_)
                clear hHeld hK K
                have hHeld := hHeldN
                clear hHeldN
                simp only [Act.put, List.setIfInBounds_toArray, List.set_cons_zero, List.set_cons_succ]
                have rxb : RowAt dmC U1 (some ⟨V0.heap.size, 0, none⟩) [(⟨xn, xa, xc, xl⟩ : Dm)] := row_grown rx2 gr1 (fun a e => by cases e; simp [Value.ownBlock])
                refine wpAnyH_ready (rs := [7]) (by kernel_rfl) (by simp) (AllReadyH.cons rfl (fun K hK => ?_) AllReadyH.nil)
                refine step_append_row (by rfl) _ _ 22 (by rfl) V0.heap.size 38 i0 (.agg #[.string ⟨#[]⟩, .slice none 0 0]) 2 40 Tryz.underlying22 hi0 hz0 hz1 hz2 rfl (by decide) v1 (0 + (D.take D.length).length) ([] ++ (D.take D.length).flatMap dmC) (by rfl) own1 dmC_len [(⟨xn, xa, xc, xl⟩ : Dm)] (some ⟨V0.heap.size, 0, none⟩) 1 (by first | rfl | (rw [ht1]; rfl) | (rw [hd1, Nat.sub_self]; rfl)) (fun e => by cases e) rxb (dm_one _) (by unfold maxLen; omega) (by omega) G3.size ?_; intro v2 U2 own2 gr2; have G4 : Gr V0 U2 := G3.grown gr2 (fun b e => (own1.lt b e).1)
                refine hK.out (Act.put _ (some 47) v2) _ (by first | exact hold2 G0 c0 c1 | exact hold2 G1 c0 c1 | exact hold2 G2 c0 c1 | exact hold2 G3 c0 c1 | exact hold2 G4 c0 c1 | exact hold2 G5 c0 c1) (fun hHeldN => ?_)
                clear hHeld hK K
                have hHeld := hHeldN
                clear hHeldN
                simp only [Act.put, List.setIfInBounds_toArray, List.set_cons_zero, List.set_cons_succ]
                refine wpAnyH_ready (rs := [11]) (by kernel_rfl) (by simp) (AllReadyH.cons rfl (fun K hK => ?_) AllReadyH.nil)
                refine step_append_row (by rfl) _ _ 22 (by rfl) V0.heap.size 38 i0 (.agg #[.string ⟨#[]⟩, .slice none 0 0]) 2 40 Tryz.underlying22 hi0 hz0 hz1 hz2 rfl (by decide) v2 (0 + (D.take D.length).length + [(⟨xn, xa, xc, xl⟩ : Dm)].length) ([] ++ (D.take D.length).flatMap dmC ++ [(⟨xn, xa, xc, xl⟩ : Dm)].flatMap dmC) (by rfl) own2 dmC_len (D.drop D.length) (some (a.add (D.length * 2))) (cap - D.length) (by first | rfl | (rw [ht1]; rfl) | (rw [hd1, Nat.sub_self]; rfl)) (fun e => by cases e) (R3.gr G4) (dm_one _) (by unfold maxLen; omega) (by omega) G4.size ?_; intro v3 U3 own3 gr3; have G5 : Gr V0 U3 := G4.grown gr3 (fun b e => (own2.lt b e).1)
                refine hK.out (Act.put _ (some 51) v3) _ (by first | exact hold2 G0 c0 c1 | exact hold2 G1 c0 c1 | exact hold2 G2 c0 c1 | exact hold2 G3 c0 c1 | exact hold2 G4 c0 c1 | exact hold2 G5 c0 c1) (fun hHeldN => ?_)
                clear hHeld hK K
                have hHeld := hHeldN
                clear hHeldN
                simp only [Act.put, List.setIfInBounds_toArray, List.set_cons_zero, List.set_cons_succ]
                refine take_yes 12 4 (v := ?_) rfl rfl (by kernel_rfl) (by kernel_rfl) (by kernel_rfl) (fun _ _ _ h => h) (by rfl) ?_ hHeld ?_
                rotate_left
                · (intro w hSw; (try dsimp only at hSw); go_simp; try with_reducible rfl)
                simp only [Act.put, List.setIfInBounds_toArray, List.set_cons_zero, List.set_cons_succ]
                refine take_yes 13 5 (v := ?_) rfl rfl (by kernel_rfl) (by kernel_rfl) (by kernel_rfl) (fun _ _ _ h => h) (by rfl) ?_ hHeld ?_
                rotate_left
                · (intro w hSw; (try dsimp only at hSw); go_simp; try with_reducible rfl)
                simp only [Act.put, List.setIfInBounds_toArray, List.set_cons_zero, List.set_cons_succ]
                refine wpAnyH_done (by kernel_rfl) ?_ _
                obtain ⟨a5, q5, D5, e5, b5, n5, l5, m5, i5, j5, k5, g5⟩ := HFin.out _ _ own3 G5
                subst e5
                have HF5 := Lib.hid b5
                have HI5 := Lib.hid i5
                have HJ5 := Lib.hid j5
                have HK5 := Lib.hid k5
                have HG5 := Lib.hid g5
                clear b5 i5 j5 k5 g5 own3 HFin
                go_wp2
                go_ret2
                exact Or.inr ⟨HP0.out, a5, q5, D5, rfl, HF5.out, n5, l5, m5, HI5.out, HJ5.out, HK5.out, HG5.out⟩
end Go.Proofs.YtfobfpigbfepoaaGreatDoor
