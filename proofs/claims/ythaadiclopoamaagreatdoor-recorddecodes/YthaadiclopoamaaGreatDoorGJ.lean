/- Parts of these proofs, laid together. -/
import Derived.Test.YthaadiclopoamaaGreatDoorGE
import Derived.Test.YthaadiclopoamaaGreatDoorGF
import Derived.Test.YthaadiclopoamaaGreatDoorGB
import Derived.Test.YthaadiclopoamaaGreatDoorGA
import Derived.Test.YthaadiclopoamaaGreatDoorGC
import Derived.Deep.RegionHeld3
/- A region that draws its order and whose last operation but a few is a store: a condition on memory that need hold only till that store has come. -/
set_option maxRecDepth 100000
set_option maxHeartbeats 8000000
namespace Go.Proofs.YthaadiclopoamaaGreatDoor
variable {P : Program} {md : Region.Mode} {ops : Array Oper} {Q : Exit -> Act -> World -> Prop}

/- whatever order is picked from here on; S holds till number s has come -/
def wpAnyL (P : Program) (md : Region.Mode) (ops : Array Oper) (Q : Exit -> Act -> World -> Prop) (s : Nat) (S : World -> Prop) : Nat -> Array Bool -> Act -> World -> Prop
 | 0, listed, a, w => Region.ready md ops listed = [] /\ Q .normal a w
 | fuel + 1, listed, a, w =>
  (Region.ready md ops listed = [] -> Q .normal a w) /\
  ∀ i ∈ Region.ready md ops listed, wpOp P ops Q i (fun a' w' => ((listed.setIfInBounds i true).getD s true = false -> S w') /\ wpAnyL P md ops Q s S fuel (listed.setIfInBounds i true) a' w') a w
variable {s : Nat} {S : World -> Prop}
theorem wpAny_of_L : ∀ (fuel : Nat) (listed : Array Bool) (a : Act) (w : World), wpAnyL P md ops Q s S fuel listed a w -> wpAny P md ops Q fuel listed a w
 | 0, _, _, _, h => h
 | fuel + 1, _, _, _, h => ⟨h.1, fun i hi => wpOp_mono (fun a' w' h' => wpAny_of_L fuel _ a' w' h'.2) (h.2 i hi)⟩
theorem getD_ne {l : Array Bool} {i j : Nat} (h : i ≠ j) : (l.setIfInBounds i true).getD j true = l.getD j true := getD_set_ne true h

theorem wpAnyL_first {i : Nat} {oi os : Oper} {v : Value} (hi : ops[i]? = some oi) (hsel : ∀ (j : Nat) (o : Oper) cs b, ops[j]? = some o -> o.op ≠ .select cs b)
  (hQ : ∀ c a w, Q (.panic c) (a.put oi.dst v) w -> Q (.panic c) a w) (his : i ≠ s) (hos : ops[s]? = some os) (hdep : ∃ e ∈ os.after, Region.binds md e = true /\ e.on = i) :
  ∀ (fuel : Nat) (listed : Array Bool) (a : Act) (w : World),
   (∀ j oj, ops[j]? = some oj -> j ≠ i -> listed.getD j true = false -> (∀ e ∈ oj.after, Region.binds md e = true -> e.on ≠ i) -> oi.apart ops oj = true) ->
   i ∈ Region.ready md ops listed -> YieldsIf P ops S oi v a -> listed.getD s true = false -> S w ->
   wpAnyL P md ops Q s S fuel (listed.setIfInBounds i true) (a.put oi.dst v) w -> wpAnyL P md ops Q s S (fuel + 1) listed a w := by
 intro fuel
 induction fuel with
 | zero =>
  intro listed a w _ hr hy _ hS H
  refine ⟨fun h => (by rw [h] at hr; cases hr), fun j hj => ?_⟩
  by_cases hji : j = i
  ·subst hji; exact hy.wpOp hi hS ⟨fun _ => hS, H⟩
  ·have := ready_mono hj hji
   rw [H.1] at this
   cases this
 | succ fuel ih =>
  intro listed a w hfree hr hy hls hS H
  refine ⟨fun h => (by rw [h] at hr; cases hr), fun j hj => ?_⟩
  by_cases hji : j = i
  ·subst hji; exact hy.wpOp hi hS ⟨fun _ => hS, H⟩
  ·have h1 := H.2 j (ready_mono hj hji)
   obtain ⟨hjun, oj, hoj, hall⟩ := mem_ready.1 hj
   have hnot : ∀ e ∈ oj.after, Region.binds md e = true -> e.on ≠ i := fun e he hb heq => by
    have h1 := hall e he hb
    have h0 := (mem_ready.1 hr).1
    rw [heq] at h1
    rcases Nat.lt_or_ge i listed.size with h' | h'
    ·simp [h'] at h0 h1; rw [h0] at h1; cases h1
    ·simp [Array.getElem?_eq_none h'] at h1
   have hjs : j ≠ s := fun e => by
    subst e
    rw [hos] at hoj
    cases hoj
    obtain ⟨e, he, hb, hon⟩ := hdep
    exact hnot e he hb hon
   have h2 := wpOp_putIf hoj (hfree j oj hoj hji hjun hnot) (fun cs b => hsel i oi cs b hi) (fun cs b => hsel j oj cs b hoj) hQ hy h1
   have hfree' : ∀ k ok, ops[k]? = some ok -> k ≠ i -> (listed.setIfInBounds j true).getD k true = false ->
     (∀ e ∈ ok.after, Region.binds md e = true -> e.on ≠ i) -> oi.apart ops ok = true := fun k ok hk hki hun hno => by
    refine hfree k ok hk hki ?_ hno
    by_cases hjk : j = k
    ·subst hjk; exact hjun
    ·rw [getD_set_ne true hjk] at hun; exact hun
   have hls' : (listed.setIfInBounds j true).getD s true = false := by rw [getD_ne hjs]; exact hls
   have hls2 : ((listed.setIfInBounds i true).setIfInBounds j true).getD s true = false := by rw [getD_ne hjs, getD_ne his]; exact hls
   refine wpOp_mono (fun a' w' h3 => ⟨fun _ => h3.2.1 hls2, ih (listed.setIfInBounds j true) a' w' hfree' (ready_mono hr (Ne.symm hji)) h3.1 hls' (h3.2.1 hls2) ?_⟩) h2
   rw [Array.setIfInBounds_comm _ _ hji]
   exact h3.2.2
theorem wpAnyL_firstW {i : Nat} {oi : Oper} {v : Value} (hi : ops[i]? = some oi) (hsel : ∀ (j : Nat) (o : Oper) cs b, ops[j]? = some o -> o.op ≠ .select cs b)
  (hQ : ∀ c a w, Q (.panic c) (a.put oi.dst v) w -> Q (.panic c) a w) (his : i ≠ s) :
  ∀ (fuel : Nat) (listed : Array Bool) (a : Act) (w : World),
   (∀ j oj, ops[j]? = some oj -> j ≠ i -> listed.getD j true = false -> (∀ e ∈ oj.after, Region.binds md e = true -> e.on ≠ i) -> oi.apart ops oj = true) ->
   i ∈ Region.ready md ops listed -> YieldsIf P ops (fun _ => True) oi v a -> (listed.getD s true = false -> S w) ->
   wpAnyL P md ops Q s S fuel (listed.setIfInBounds i true) (a.put oi.dst v) w -> wpAnyL P md ops Q s S (fuel + 1) listed a w := by
 intro fuel
 induction fuel with
 | zero =>
  intro listed a w _ hr hy hS H
  refine ⟨fun h => (by rw [h] at hr; cases hr), fun j hj => ?_⟩
  by_cases hji : j = i
  ·subst hji; exact hy.wpOp hi trivial ⟨fun h => hS (by rw [getD_ne his] at h; exact h), H⟩
  ·have := ready_mono hj hji
   rw [H.1] at this
   cases this
 | succ fuel ih =>
  intro listed a w hfree hr hy hS H
  refine ⟨fun h => (by rw [h] at hr; cases hr), fun j hj => ?_⟩
  by_cases hji : j = i
  ·subst hji; exact hy.wpOp hi trivial ⟨fun h => hS (by rw [getD_ne his] at h; exact h), H⟩
  ·have h1 := H.2 j (ready_mono hj hji)
   obtain ⟨hjun, oj, hoj, hall⟩ := mem_ready.1 hj
   have hnot : ∀ e ∈ oj.after, Region.binds md e = true -> e.on ≠ i := fun e he hb heq => by
    have h1 := hall e he hb
    have h0 := (mem_ready.1 hr).1
    rw [heq] at h1
    rcases Nat.lt_or_ge i listed.size with h' | h'
    ·simp [h'] at h0 h1; rw [h0] at h1; cases h1
    ·simp [Array.getElem?_eq_none h'] at h1
   have h2 := wpOp_putIf hoj (hfree j oj hoj hji hjun hnot) (fun cs b => hsel i oi cs b hi) (fun cs b => hsel j oj cs b hoj) hQ hy h1
   have hfree' : ∀ k ok, ops[k]? = some ok -> k ≠ i -> (listed.setIfInBounds j true).getD k true = false ->
     (∀ e ∈ ok.after, Region.binds md e = true -> e.on ≠ i) -> oi.apart ops ok = true := fun k ok hk hki hun hno => by
    refine hfree k ok hk hki ?_ hno
    by_cases hjk : j = k
    ·subst hjk; exact hjun
    ·rw [getD_set_ne true hjk] at hun; exact hun
   have hsame : ((listed.setIfInBounds i true).setIfInBounds j true).getD s true = (listed.setIfInBounds j true).getD s true := by
    rw [Array.setIfInBounds_comm _ _ (Ne.symm hji), getD_ne his]
   refine wpOp_mono (fun a' w' h3 => ⟨fun h => h3.2.1 (by rw [hsame]; exact h), ih (listed.setIfInBounds j true) a' w' hfree' (ready_mono hr (Ne.symm hji)) h3.1 (fun h => h3.2.1 (by rw [hsame]; exact h)) ?_⟩) h2
   rw [Array.setIfInBounds_comm _ _ hji]
   exact h3.2.2

def waits (md : Region.Mode) (ops : Array Oper) (s i : Nat) : Bool := match ops[s]? with | some o => o.after.any fun e => Region.binds md e && e.on == i | none => false
theorem waits_spec {i : Nat} (h : waits md ops s i = true) : ∃ os, ops[s]? = some os /\ ∃ e ∈ os.after, Region.binds md e = true /\ e.on = i := by
 unfold waits at h
 cases hs : ops[s]? with
 | none => rw [hs] at h; cases h
 | some o =>
  rw [hs] at h
  obtain ⟨e, he, hb⟩ := Array.any_eq_true'.1 h
  simp only [Bool.and_eq_true, beq_iff_eq] at hb
  exact ⟨o, rfl, e, he, hb.1, hb.2⟩
/- taken first, under S -/
theorem takeS (i d : Nat) {oi : Oper} {v : Value} {fuel : Nat} {listed : Array Bool} {a : Act} {w : World} (hi : ops[i]? = some oi) (hd : oi.dst = some d) (his : i ≠ s) (hwt : waits md ops s i = true)
  (hs : Region.noSelect ops = true) (hf : Region.free md ops listed i = true) (hr : (Region.ready md ops listed).contains i = true) (hls : listed.getD s true = false)
  (hQ : ∀ c a w, Q (.panic c) (a.put (some d) v) w -> Q (.panic c) a w) (hw : Region.wanted oi (yielded ops a.tmps) = true) (hy : ∀ w, S w -> (execOp a.eval oi).run P w = .ok (.value v) w) (hS : S w)
  (h : wpAnyL P md ops Q s S fuel (listed.setIfInBounds i true) (a.put (some d) v) w) : wpAnyL P md ops Q s S (fuel + 1) listed a w := by
 rw [<- hd] at hQ h
 obtain ⟨os, hos, hdep⟩ := waits_spec hwt
 exact wpAnyL_first hi (Region.noSelect_spec hs) hQ his hos hdep fuel listed a w (Region.free_spec hi hf) (by simpa using hr) (Or.inl ⟨hw, hy⟩) hls hS h
/- taken first, whatever the memory -/
theorem takeW (i d : Nat) {oi : Oper} {v : Value} {fuel : Nat} {listed : Array Bool} {a : Act} {w : World} (hi : ops[i]? = some oi) (hd : oi.dst = some d) (his : i ≠ s)
  (hs : Region.noSelect ops = true) (hf : Region.free md ops listed i = true) (hr : (Region.ready md ops listed).contains i = true)
  (hQ : ∀ c a w, Q (.panic c) (a.put (some d) v) w -> Q (.panic c) a w) (hw : Region.wanted oi (yielded ops a.tmps) = true) (hy : ∀ w, (execOp a.eval oi).run P w = .ok (.value v) w) (hS : listed.getD s true = false -> S w)
  (h : wpAnyL P md ops Q s S fuel (listed.setIfInBounds i true) (a.put (some d) v) w) : wpAnyL P md ops Q s S (fuel + 1) listed a w := by
 rw [<- hd] at hQ h
 exact wpAnyL_firstW hi (Region.noSelect_spec hs) hQ his fuel listed a w (Region.free_spec hi hf) (by simpa using hr) (Or.inl ⟨hw, fun w _ => hy w⟩) hS h
/- the only one that may come up -/
theorem stepL (i : Nat) {o : Oper} {fuel : Nat} {listed : Array Bool} {a : Act} {w : World} (hr : Region.ready md ops listed = [i]) (ho : ops[i]? = some o)
  (h : ∀ K' : Act -> World -> Prop, Shut (∀ a w, ((listed.setIfInBounds i true).getD s true = false -> S w) -> wpAnyL P md ops Q s S fuel (listed.setIfInBounds i true) a w -> K' a w) -> if Region.wanted o (yielded ops a.tmps) = true then Oper.wp P o a w K' Q else K' (a.put o.dst undef) w) :
  wpAnyL P md ops Q s S (fuel + 1) listed a w := by
 refine ⟨fun h0 => (by rw [hr] at h0; cases h0), fun j hj => ?_⟩
 rw [hr] at hj
 obtain rfl : j = i := by simpa using hj
 exact wpOp_step ho (fun K' hK => h K' (fun a w hS hW => hK a w ⟨hS, hW⟩))
theorem stepC (i : Nat) {o : Oper} {fuel : Nat} {listed : Array Bool} {a : Act} {w : World} (hr : Region.ready md ops listed = [i]) (ho : ops[i]? = some o)
  (h : ∀ K' : Act -> World -> Prop, Shut (∀ a w, S w -> (S w -> wpAnyL P md ops Q s S fuel (listed.setIfInBounds i true) a w) -> K' a w) -> if Region.wanted o (yielded ops a.tmps) = true then Oper.wp P o a w K' Q else K' (a.put o.dst undef) w) :
  wpAnyL P md ops Q s S (fuel + 1) listed a w :=
 stepL i hr ho (fun K' hK => h K' (fun a w hS hW => hK.out a w (fun _ => hS) (hW hS)))
theorem listed_done {l : Array Bool} {s : Nat} (h1 : l.getD s true = true) (h : l.getD s true = false) {S : Prop} : S := by rw [h1] at h; cases h
theorem stepS {o : Oper} {fuel : Nat} {listed : Array Bool} {a : Act} {w : World} (hr : Region.ready md ops listed = [s]) (ho : ops[s]? = some o) (hl : (listed.setIfInBounds s true).getD s true = true)
  (h : ∀ K' : Act -> World -> Prop, Shut (∀ a w, wpAnyL P md ops Q s S fuel (listed.setIfInBounds s true) a w -> K' a w) -> if Region.wanted o (yielded ops a.tmps) = true then Oper.wp P o a w K' Q else K' (a.put o.dst undef) w) :
  wpAnyL P md ops Q s S (fuel + 1) listed a w :=
 stepL s hr ho (fun K' hK => h K' (fun a w hW => hK.out a w (fun h => listed_done hl h) hW))
theorem doneL {listed : Array Bool} {a : Act} {w : World} (hr : Region.ready md ops listed = []) (h : Q .normal a w) : ∀ fuel, wpAnyL P md ops Q s S fuel listed a w
 | 0 => ⟨hr, h⟩
 | _ + 1 => ⟨fun _ => h, by rw [hr]; simp⟩
theorem beginL (s : Nat) (S : World -> Prop) {id : Nat} {a : Act} {w : World} (hm : P.follows .mixedOrders = true) (hS : S w.drew)
  (h : S w.drew -> wpAnyL P .any ops Q s S ops.size (Array.replicate ops.size false) a w.drew) : (Code.region id ops true).wp P Q a w :=
 wp_region_any hm (wpAny_of_L (s := s) (S := S) _ _ _ _ (h hS))
end Go.Proofs.YthaadiclopoamaaGreatDoor
/- lexic: Check. -/
set_option maxRecDepth 100000
set_option maxHeartbeats 8000000
namespace Go.Proofs.YthaadiclopoamaaGreatDoor
open Go.RowKit
open Lex (Tok ckE okT endT szs jz)

theorem slice_low (ad : Option Addr) (n cap c : Nat) (hc : c <= n) (hn : n <= cap) (W : World) :
  (Instr.sliceAt 161 (.slice ad n cap) none (some (.int .i64 c)) none).run Tryz.prog W = .ok (.slice ad c cap) W := by
 have h1 : (c : Int) <= cap := by omega
 go_simp

theorem lCheck_any (T : List Tok) (ad : Option Addr) (cap : Nat) (w : World) (hT : ToksAt w ad T) (hc : T.length <= cap) (hn : T.length <= 5000) (hz : ∀ x ∈ T, x.t.size <= 9223372036854775807) :
  Calls Tryz.prog 133 #[.slice ad T.length cap] w fun e w' => e = .returned (.int .i64 (ckE T)) /\ Gr w w' := by
 rcases List.eq_nil_or_concat T with rfl | ⟨I, x, rfl⟩
 ·rw [Lex.ck_none]
  go_enter Tryz.func133, Tryz.ntmps133
  go_wp2
  go_ret
  exact ⟨rfl, Gr.refl _⟩
 rw [List.concat_eq_append] at *
 have HK : Hid (ckE (I ++ [x]) = if endT x = true then (if I.all okT = true then (if 2000 < jz I then 3 else 0) else 80) else 80) := Lex.ck_snoc I x
 have hlen : (I ++ [x]).length = I.length + 1 := by simp
 rw [hlen] at hc hn ⊢
 obtain ⟨b, off, rfl, hb, k0, k1, k2⟩ := hT I.length (by rw [hlen]; omega)
 clear k2
 rw [List.getElem_append_right (Nat.le_refl _)] at k0 k1
 simp only [Nat.sub_self, List.getElem_cons_zero] at k0 k1
 have HT : Hid (∀ j (h : j < I.length), w.cell? ⟨b, off + j * 3, none⟩ = some (.int .i64 I[j].k) /\ w.cell? ⟨b, off + j * 3 + 1, none⟩ = some (.string I[j].t) /\ w.cell? ⟨b, off + j * 3 + 2, none⟩ = some (.int .i64 I[j].p)) := by
  intro j h
  obtain ⟨b', off', e, _, h1, h2, h3⟩ := hT j (by rw [hlen]; omega)
  cases e
  rw [List.getElem_append_left h] at h1 h2 h3
  exact ⟨h1, h2, h3⟩
 have HZ : Hid (∀ j (h : j < I.length), I[j].t.size <= 9223372036854775807) := fun j h => hz _ (by simp)
 have hw1 : wrap64 ((I.length : Int) + 1 - 1) = (I.length : Int) := by unfold wrap64; omega
 have hsl := slice_low (some ⟨b, off, none⟩) (I.length + 1) cap I.length (by omega) hc
 clear hT hz hlen
 have hlt0 : ¬ ((I.length : Int) < 0) := by omega
 by_cases he1 : x.k = 0
 ·have e1 : (x.k != 0) = false := by simpa using he1
  have hb0 := text_ne x.t []
  rw [show (⟨[].toArray⟩ : ByteArray) = ⟨#[]⟩ from rfl] at hb0
  by_cases he2 : x.t = ⟨#[]⟩
  ·rw [decide_eq_true he2, show (!true) = false from rfl] at hb0
   have hb2 : (x.t.toList == []) = true := by simpa using hb0
   have HK2 : Hid (ckE (I ++ [x]) = if I.all okT = true then (if 2000 < jz I then 3 else 0) else 80) := by
    show _ = _
    rw [HK.out, if_pos]
    unfold Lex.endT
    rw [decide_eq_true he1, decide_eq_true he2]; rfl
   have HM : Hid (∀ (j : Nat) (h : j < I.length) (w' : World), Calls Tryz.prog 157 #[.agg #[.int .i64 I[j].k, .string I[j].t, .int .i64 I[j].p]] w' fun e w2 => e = .returned (.bool (okT I[j])) /\ Gr w' w2) := fun j h w' => mayBe_any _ _ _ w' (HZ.out j h)
   obtain ⟨z, hzz⟩ : ∃ z : Nat, z = I.length - 1 := ⟨_, rfl⟩
   have hmx : max ((I.length : Int) - 1) 0 = (z : Int) := by omega
   have HB1 : Hid (∀ j, (∀ i (hi : i < I.length), i < j -> okT I[i] = true) -> j <= I.length -> szs (I.take j) <= 16 * j) := by
    intro j ha hj
    have := Lex.szs_bound (I.take j) (fun y hy => by
     obtain ⟨i, hi, rfl⟩ := List.getElem_of_mem hy
     rw [List.length_take] at hi
     rw [List.getElem_take]
     exact ha i (by omega) (by omega))
    rw [List.length_take] at this
    omega
   clear HK he1 he2
   generalize ckE (I ++ [x]) = CK at *
   go_enter Tryz.func133, Tryz.ntmps133
   go_wp2
   go_loopw [4, 35] (fun z' i' wr => ∃ i : Nat, i <= I.length /\ i' = .int .i64 (i : Int) /\ z' = .int .i64 ((z + szs (I.take i) : Nat) : Int) /\ Gr w wr /\ ∀ j (hj : j < I.length), j < i -> okT I[j] = true) (fun _ i' _ => I.length - (intOf i').toNat)
   case atStart => exact ⟨0, by omega, rfl, by simp [Lex.szs]; omega, Gr.refl _, fun j _ h => absurd h (by omega)⟩
   case round =>
    obtain ⟨i, hi, rfl, rfl, hg, ha⟩ := hrel
    have HA : Hid (∀ j (hj : j < I.length), j < i -> okT I[j] = true) := ha
    have HG : Hid (Gr w wr) := hg
    have hbd := HB1.out i ha hi
    clear ha hg
    by_cases hlt : i < I.length
    ·obtain ⟨c0, c1, c2⟩ := HT.out i hlt
     replace c0 := HG.out.keep c0
     replace c1 := HG.out.keep c1
     replace c2 := HG.out.keep c2
     have hbw : b < wr.heap.size := Nat.lt_of_lt_of_le hb HG.out.size
     go_wp2_with fail
     refine (HM.out i hlt _).mono ?_
     rintro e w2 ⟨rfl, hg2⟩
     have hx1 := (BoxAt.new wr (.int .i64 I[i].k) (.string I[i].t) (.int .i64 I[i].p) 167 _ rfl).gr hg2
     have HG2 : Hid (Gr w w2) := HG.out.trans ((Gr.refl _).alloc.trans hg2)
     obtain ⟨x0, x1, x2, _, _, _, xl⟩ := hx1
     cases hok : okT I[i] with
     | false =>
      have HE : Hid (CK = 80) := by
       show _ = _
       rw [HK2.out, Lex.all_nidx I okT i hlt hok]; rfl
      clear hok
      go_wp2
      go_ret
      exact ⟨by rw [HE.out]; rfl, HG2.out⟩
     | true =>
      have hsz := (Lex.may_size hok).2
      have HS : Hid (okT I[i] = true) := hok
      have HZT : Hid (szs (I.take (i + 1)) = szs (I.take i) + I[i].t.size) := Lex.szs_take I i hlt
      clear hok c0 c1 c2
      generalize szs (I.take i) = za at *
      have hz5 : z <= 5000 := by omega
      clear hw1 hsl hmx hzz k0 k1 hb0 hb2 e1
      go_wp2
      go_roundw
      case rel => exact ⟨i + 1, by omega, by go_num, by rw [HZT.out]; congr 1; omega, HG2.out, fun j hj h => if e : j = i then by subst e; exact HS.out else HA.out j hj (by omega)⟩
      case measure => simp [intOf]; omega
    ·obtain rfl : i = I.length := by omega
     have hall : I.all okT = true := Lex.all_idx I okT (fun j hj => HA.out j hj hj)
     have HE : Hid (CK = if 2000 < z + szs I then 3 else 0) := by
      show _ = _
      rw [HK2.out, if_pos hall, hzz]
      unfold Lex.jz
      rw [Nat.add_comm]
     rw [List.take_length] at hbd ⊢
     clear hall
     generalize szs I = za at *
     by_cases hbig : 2000 < z + za
     ·have hbi : (2000 : Int) < ((z + za : Nat) : Int) := by omega
      rw [if_pos hbig] at HE
      go_wp2
      go_ret
      exact ⟨by rw [HE.out]; rfl, HG.out⟩
     ·have hbi : ¬ (2000 : Int) < ((z + za : Nat) : Int) := by omega
      rw [if_neg hbig] at HE
      go_wp2
      go_ret
      exact ⟨by rw [HE.out]; rfl, HG.out⟩
  ·have HE : Hid (ckE (I ++ [x]) = 80) := by
    show _ = _
    rw [HK.out, if_neg]
    unfold Lex.endT
    rw [decide_eq_false he2]; simp
   rw [decide_eq_false he2, show (!false) = true from rfl] at hb0
   have hb2 : (x.t.toList == []) = false := by simpa using hb0
   clear HK he2
   generalize ckE (I ++ [x]) = CK at *
   go_enter Tryz.func133, Tryz.ntmps133
   go_wp2
   go_ret
   exact ⟨by rw [HE.out]; rfl, Gr.refl _⟩
 ·have HE : Hid (ckE (I ++ [x]) = 80) := by
   show _ = _
   rw [HK.out, if_neg]
   unfold Lex.endT
   rw [decide_eq_false he1]; simp
  have e1 : (x.k != 0) = true := by simpa using he1
  clear HK
  generalize ckE (I ++ [x]) = CK at *
  go_enter Tryz.func133, Tryz.ntmps133
  go_wp2
  go_ret
  exact ⟨by rw [HE.out]; rfl, Gr.refl _⟩
end Go.Proofs.YthaadiclopoamaaGreatDoor
/- Show: the text of an id. -/
set_option maxRecDepth 100000
set_option maxHeartbeats 8000000
namespace Go.Proofs.YthaadiclopoamaaGreatDoor
open Go.RowKit

def digsT (n : Int) : List UInt8 := Lib.decDigits n.toNat

theorem may_root {r n : Int} {L : List (Int × Int)} (h : Idn.mayB r n L = true) : 0 <= r /\ r < 16 /\ 1 <= n /\ n <= 999999 /\ L.length <= 4 /\ ∀ x ∈ L, 0 <= x.1 /\ x.1 < 8 /\ 0 <= x.2 /\ x.2 < 16 := by
 rw [Idn.may_hops] at h
 simp only [Bool.and_eq_true, decide_eq_true_eq] at h
 obtain ⟨⟨⟨⟨⟨h1, h2⟩, h3⟩, h4⟩, h5⟩, h6⟩ := h
 refine ⟨h4, h5, h1, h2, h3, ?_⟩
 have key : ∀ (l : List (Int × Int)) (seen : List Int), Idn.hopsB r seen l = true -> ∀ x ∈ l, 0 <= x.1 /\ x.1 < 8 /\ 0 <= x.2 /\ x.2 < 16 := by
  intro l
  induction l with
  | nil => intro _ _ x hx; simp at hx
  | cons a t ih =>
   intro seen hb x hx
   rw [Idn.hopsB] at hb
   simp only [Bool.and_eq_true, decide_eq_true_eq] at hb
   rcases List.mem_cons.1 hx with rfl | hx
   ·exact ⟨hb.1.1.1.1.1.1, hb.1.1.1.1.1.2, hb.1.1.1.1.2, hb.1.1.1.2⟩
   ·exact ih _ hb.2 x hx
 exact key L [] h6

theorem digs_len (n : Nat) (k : Nat) (h : n < 10 ^ (k + 1)) : (Lib.decDigits n).length <= k + 1 := by
 induction k generalizing n with
 | zero => rw [Lib.decDigits, dif_pos (by simpa using h)]; simp
 | succ k ih =>
  rw [Lib.decDigits]
  split
  ·simp
  ·have := ih (n / 10) (by rw [Nat.div_lt_iff_lt_mul (by omega)]; rw [Nat.pow_succ] at h; exact h)
   simp; omega

theorem show_len (r n : Int) (L : List (Int × Int)) (hr0 : 0 <= r) (hr1 : r < 16) (hn0 : 1 <= n) (hn1 : n <= 999999) (h : ∀ x ∈ L, 0 <= x.1 /\ x.1 < 8 /\ 0 <= x.2 /\ x.2 < 16) : (Idn.showT r n L).length <= 13 + 14 * L.length := by
 have key : (L.flatMap Idn.hopT).length <= 14 * L.length := by
  induction L with
  | nil => simp
  | cons a t ih =>
   have h1 := ih (fun x hx => h x (List.mem_cons_of_mem _ hx))
   have h2 := h a List.mem_cons_self
   have l1 := digs_len a.1.toNat 5 (by omega)
   have l2 := digs_len a.2.toNat 5 (by omega)
   rw [List.flatMap_cons, List.length_append, List.length_cons]
   have e : (Idn.hopT a).length = (Lib.decDigits a.1.toNat).length + (Lib.decDigits a.2.toNat).length + 2 := by
    simp [Idn.hopT]; omega
   omega
 have l1 := digs_len r.toNat 5 (by omega)
 have l2 := digs_len n.toNat 5 (by omega)
 have e : (Idn.showT r n L).length = (Lib.decDigits r.toNat).length + (Lib.decDigits n.toNat).length + 1 + (L.flatMap Idn.hopT).length := by
  unfold Idn.showT
  rw [List.length_append, List.length_append, List.length_cons]; omega
 omega

theorem show_any (r n : Int) (L : List (Int × Int)) (ad : Option Addr) (cap : Nat) (w : World) (hL : HopsAt w ad L) (hn : L.length <= 9223372036854775807) (he : Env w) :
  Calls Tryz.prog 22 #[.agg #[.int .i64 r, .int .i64 n, .slice ad L.length cap]] w fun e w' =>
   ((Idn.mayB r n L = true /\ e = .returned (.tuple #[.string ⟨(Idn.showT r n L).toArray⟩, .int .i64 0])) ∨ (Idn.mayB r n L = false /\ e = .returned (.tuple #[.string ⟨#[]⟩, .int .i64 30]))) /\ Gr w w' := by
 have HC : Hid (∀ w', Gr w w' -> Calls Tryz.prog 53 #[.agg #[.int .i64 r, .int .i64 n, .slice ad L.length cap]] w' fun e w2 => e = .returned (.int .i64 (errB (Idn.mayB r n L))) /\ Gr w' w2) := fun w' g => check_any r n L ad cap w' (hL.gr g) hn
 by_cases hm : Idn.mayB r n L = true
 ·obtain ⟨hr0, hr1, hn0, hn1, h4, hall⟩ := may_root hm
  have HI : Hid (∀ (x : Int) (w' : World), 0 <= x -> x <= 999999 -> Gr w w' -> Calls Tryz.prog 23 #[.int .i64 x] w' fun e w2 => e = .returned (.string ⟨(digsT x).toArray⟩) /\ Gr w' w2) := by
   intro x w' h0 h1 g
   have := itoa_any x.toNat w' (by omega) (he.gr g)
   rw [show ((x.toNat : Nat) : Int) = x by omega] at this
   exact this
  have hlr : (digsT r).length <= 6 := digs_len r.toNat 5 (by omega)
  have hln : (digsT n).length <= 6 := digs_len n.toNat 5 (by omega)
  have ha1 := add_lists (digsT r) [46] (by simp; omega)
  have ha2 := add_lists (digsT r ++ [46]) (digsT n) (by simp; omega)
  have HT0 : Hid (Idn.showT r n [] = digsT r ++ [46] ++ digsT n) := by show _ = _; simp [Idn.showT, digsT]
  generalize digsT r ++ [46] ++ digsT n = u2 at ha2 HT0
  generalize digsT r ++ [46] = u1 at ha1 ha2
  rw [hm, show errB true = 0 from rfl] at HC
  have HM : Hid (Idn.mayB r n L = true) := hm
  have HL : Hid (HopsAt w ad L) := hL
  have HA : Hid (∀ x ∈ L, 0 <= x.1 /\ x.1 < 8 /\ 0 <= x.2 /\ x.2 < 16) := hall
  clear hL hm hall he
  go_enter Tryz.func22, Tryz.ntmps22
  go_wp2_with fail
  refine (HC.out _ (by repeat(first|exact Gr.r _|refine Gr.a ?_|refine Gr.d ?_|refine Gr.t ?_ (by assumption)))).mono ?_
  rintro e1 w1 ⟨rfl, hg1⟩
  have p0 : w1.cell? ⟨w.heap.size, 0, none⟩ = some (.int .i64 r) := hg1.keep (by simp)
  have p1 : w1.cell? ⟨w.heap.size, 1, none⟩ = some (.int .i64 n) := hg1.keep (by simp)
  have p2 : w1.cell? ⟨w.heap.size, 2, none⟩ = some (.slice ad L.length cap) := hg1.keep (by simp)
  go_wp2
  go_region_held3 (fun w' => Gr w w' /\ Gr w1 w' /\ w'.cell? ⟨w.heap.size, 0, none⟩ = some (.int .i64 r) /\ w'.cell? ⟨w.heap.size, 1, none⟩ = some (.int .i64 n))
   ((go_split_ands; exact ⟨(by repeat(first|exact Gr.r _|refine Gr.a ?_|refine Gr.d ?_|refine Gr.t ?_ (by assumption))), (by repeat(first|exact Gr.r _|refine Gr.a ?_|refine Gr.d ?_|refine Gr.t ?_ (by assumption))), Gr.keep (W := w1) (by repeat(first|exact Gr.r _|refine Gr.a ?_|refine Gr.d ?_|refine Gr.t ?_ (by assumption))) p0, Gr.keep (W := w1) (by repeat(first|exact Gr.r _|refine Gr.a ?_|refine Gr.d ?_|refine Gr.t ?_ (by assumption))) p1⟩))
   ((first | (go_at_call_of 23 (Value.int IntKind.i64 r); refine (HI.out r _ (by omega) (by omega) ?_).mono ?_; (go_split_ands; exact (by repeat(first|exact Gr.r _|refine Gr.a ?_|refine Gr.d ?_|refine Gr.t ?_ (by assumption)))); rintro e w2 ⟨rfl, hg2⟩; go_split_ands; have q2 : w2.cell? ⟨w.heap.size, 2, none⟩ = some (.slice ad L.length cap) := (Gr.keep (W := w1) (by repeat(first|exact Gr.r _|refine Gr.a ?_|refine Gr.d ?_|refine Gr.t ?_ (by assumption))) p2)) | (go_at_call 23; refine (HI.out n _ (by omega) (by omega) ?_).mono ?_; (go_split_ands; exact (by repeat(first|exact Gr.r _|refine Gr.a ?_|refine Gr.d ?_|refine Gr.t ?_ (by assumption)))); rintro e w3 ⟨rfl, hg3⟩; go_split_ands; have q3 : w3.cell? ⟨w.heap.size, 2, none⟩ = some (.slice ad L.length cap) := (Gr.keep (W := w1) (by repeat(first|exact Gr.r _|refine Gr.a ?_|refine Gr.d ?_|refine Gr.t ?_ (by assumption))) p2))))
  all_goals go_wp2
  all_goals
   go_loopw [5, 24] (fun o i wr => ∃ k : Nat, k <= L.length /\ i = .int .i64 k /\ o = .string ⟨(Idn.showT r n (L.take k)).toArray⟩ /\ Gr w wr) (fun _ i _ => L.length - (intOf i).toNat)
   case atStart => exact ⟨0, by omega, rfl, by rw [List.take_zero, HT0.out], (by repeat(first|exact Gr.r _|refine Gr.a ?_|refine Gr.d ?_|refine Gr.t ?_ (by assumption)))⟩
   case round =>
    obtain ⟨k, hk, rfl, rfl, hg⟩ := hrel
    by_cases hlt : k < L.length
    ·obtain ⟨b, off, rfl, hbl, hc, hd⟩ := HL.out k hlt
     have hc' := hg.keep hc
     have hd' := hg.keep hd
     obtain ⟨x0, x1, x2, x3⟩ := HA.out L[k] (List.getElem_mem hlt)
     have HT : Hid (Idn.showT r n (L.take (k + 1)) = Idn.showT r n (L.take k) ++ ([47] ++ digsT L[k].1 ++ [64] ++ digsT L[k].2)) := by
      show _ = _
      unfold Idn.showT
      rw [List.take_succ_eq_append_getElem hlt, List.flatMap_append]
      simp [Idn.hopT, digsT]
     have hsl := show_len r n (L.take k) hr0 hr1 hn0 hn1 (fun x hx => HA.out x (List.mem_of_mem_take hx))
     rw [List.length_take] at hsl
     obtain ⟨⟨y1, y2⟩, hy⟩ : ∃ h, L[k] = h := ⟨_, rfl⟩
     rw [hy] at hc' hd' x0 x1 x2 x3 HT
     simp only at x0 x1 x2 x3 HT
     have l1 : (digsT y1).length <= 6 := digs_len y1.toNat 5 (by omega)
     have l2 : (digsT y2).length <= 6 := digs_len y2.toNat 5 (by omega)
     have a1 := add_lists [47] (digsT y1) (by simp; omega)
     have a2 := add_lists ([47] ++ digsT y1) [64] (by simp; omega)
     have a3 := add_lists ([47] ++ digsT y1 ++ [64]) (digsT y2) (by simp; omega)
     have a4 := add_lists (Idn.showT r n (L.take k)) ([47] ++ digsT y1 ++ [64] ++ digsT y2) (by simp; omega)
     have hbw : b < wr.heap.size := Nat.lt_of_lt_of_le hbl hg.size
     have a4' : ∀ w : World, (Op.stringOp .add ⟨(Idn.showT r n (L.take k)).toArray⟩ ⟨([47] ++ digsT y1 ++ [64] ++ digsT y2).toArray⟩).run Tryz.prog w = .ok (.string ⟨(Idn.showT r n (L.take (k + 1))).toArray⟩) w := by intro w; rw [a4 w, HT.out]
     clear a4 HT
     obtain ⟨st2, hst⟩ : ∃ x, Idn.showT r n (L.take (k + 1)) = x := ⟨_, rfl⟩
     have HST : Hid (Idn.showT r n (L.take (k + 1)) = st2) := hst
     rw [hst] at a4'
     clear hst
     generalize Idn.showT r n (L.take k) = st at *
     generalize [47] ++ digsT y1 ++ [64] ++ digsT y2 = t3 at a3 a4'
     generalize [47] ++ digsT y1 ++ [64] = t2 at a2 a3
     generalize [47] ++ digsT y1 = t1 at a1 a2
     clear hc hd hy ha1 ha2 hsl
     go_wp2
     go_region_held3 (fun w' => Gr w w' /\ Gr (wr.alloc (.cells #[.int .i64 y1, .int .i64 y2] 85)) w' /\ w'.cell? ⟨wr.heap.size, 0, none⟩ = some (.int .i64 y1) /\ w'.cell? ⟨wr.heap.size, 1, none⟩ = some (.int .i64 y2))
      ((go_split_ands; exact ⟨(by repeat(first|exact Gr.r _|refine Gr.a ?_|refine Gr.d ?_|refine Gr.t ?_ (by assumption))), (by repeat(first|exact Gr.r _|refine Gr.a ?_|refine Gr.d ?_|refine Gr.t ?_ (by assumption))), Gr.keep (W := wr.alloc (.cells #[.int .i64 y1, .int .i64 y2] 85)) (by repeat(first|exact Gr.r _|refine Gr.a ?_|refine Gr.d ?_|refine Gr.t ?_ (by assumption))) (by simp), Gr.keep (W := wr.alloc (.cells #[.int .i64 y1, .int .i64 y2] 85)) (by repeat(first|exact Gr.r _|refine Gr.a ?_|refine Gr.d ?_|refine Gr.t ?_ (by assumption))) (by simp)⟩))
      ((first | (go_at_call_of 23 (Value.int IntKind.i64 y1); refine (HI.out y1 _ (by omega) (by omega) ?_).mono ?_; (go_split_ands; exact (by repeat(first|exact Gr.r _|refine Gr.a ?_|refine Gr.d ?_|refine Gr.t ?_ (by assumption)))); rintro e w2 ⟨rfl, hg2⟩) | (go_at_call 23; refine (HI.out y2 _ (by omega) (by omega) ?_).mono ?_; (go_split_ands; exact (by repeat(first|exact Gr.r _|refine Gr.a ?_|refine Gr.d ?_|refine Gr.t ?_ (by assumption)))); rintro e w3 ⟨rfl, hg3⟩)))
     all_goals go_wp2
     all_goals
      go_roundw
      case rel => exact ⟨k + 1, by omega, by go_num, by rw [HST.out], (by repeat(first|exact Gr.r _|refine Gr.a ?_|refine Gr.d ?_|refine Gr.t ?_ (by assumption)))⟩
      case measure => simp [intOf]; omega
    ·have HE : Hid (Idn.showT r n (L.take k) = Idn.showT r n L) := by
      show _ = _
      rw [List.take_of_length_le (by omega)]
     go_wp2
     go_ret2
     exact ⟨Or.inl ⟨HM.out, by rw [<- HE.out]; rfl⟩, hg⟩
 ·have hm' : Idn.mayB r n L = false := by simpa using hm
  rw [hm', show errB false = 30 from rfl] at HC
  have HM : Hid (Idn.mayB r n L = false) := hm'
  clear hL hm hm' he
  go_enter Tryz.func22, Tryz.ntmps22
  go_wp2_with fail
  refine (HC.out _ (by repeat(first|exact Gr.r _|refine Gr.a ?_|refine Gr.d ?_|refine Gr.t ?_ (by assumption)))).mono ?_
  rintro e1 w1 ⟨rfl, hg1⟩
  go_wp2
  go_ret2
  exact ⟨Or.inr ⟨HM.out, rfl⟩, (by repeat(first|exact Gr.r _|refine Gr.a ?_|refine Gr.d ?_|refine Gr.t ?_ (by assumption)))⟩
end Go.Proofs.YthaadiclopoamaaGreatDoor
/- More laws of the plain functions: what was laid is taken again; forms and their order. -/
set_option maxRecDepth 100000
set_option maxHeartbeats 8000000
namespace Pk

theorem takeF_last (f i a x : Nat) (r : List UInt8) (g : Nat) (hx : x < 128) (hf : f + i = 10) (ht : a + x * 128 ^ i < 18446744073709551616) (hi : i = 0 ∨ x ≠ 0) :
  takeF f i a (numF g x ++ r) = (a + x * 128 ^ i, i + (numF g x).length, 0) := by
 have hi9 : i <= 9 := by
  rcases Nat.lt_or_ge i 10 with h | h
  ·omega
  ·have h1 : 128 ^ 10 <= 128 ^ i := Nat.pow_le_pow_right (by omega) h
   have h2 := Nat.mul_le_mul (show 1 <= x by omega) h1
   omega
 obtain ⟨f, rfl⟩ : ∃ k, f = k + 1 := ⟨f - 1, by omega⟩
 have hb : (UInt8.ofNat x).toNat = x := by simp; omega
 rw [numF_lt g x hx, List.cons_append, takeF, hb, if_neg (by omega), if_neg]
 ·simp
 ·rintro (⟨h9, h1⟩ | ⟨h0, h1⟩)
  ·subst h9
   have h2 := Nat.mul_le_mul_right (128 ^ 9) (show 2 <= x by omega)
   omega
  ·omega
/- what was laid is taken again, whatever is behind -/
theorem takeF_numF (g : Nat) : ∀ (f i a x : Nat) (r : List UInt8), x < 128 ^ (g + 1) -> f + i = 10 -> a < 128 ^ i -> a + x * 128 ^ i < 18446744073709551616 -> (i = 0 ∨ x ≠ 0) ->
  takeF f i a (numF g x ++ r) = (a + x * 128 ^ i, i + (numF g x).length, 0) := by
 induction g with
 | zero =>
  intro f i a x r hx hf ha ht hi
  have hx1 : x < 128 := by simpa using hx
  exact takeF_last f i a x r 0 hx1 hf ht hi
 | succ g ih =>
  intro f i a x r hx hf ha ht hi
  by_cases hlt : x < 128
  ·exact takeF_last f i a x r (g + 1) hlt hf ht hi
  ·have hi9 : i <= 9 := by
    rcases Nat.lt_or_ge i 10 with h | h
    ·omega
    ·have h1 : 128 ^ 10 <= 128 ^ i := Nat.pow_le_pow_right (by omega) h
     have h2 := Nat.mul_le_mul (show 1 <= x by omega) h1
     omega
   obtain ⟨f, rfl⟩ : ∃ k, f = k + 1 := ⟨f - 1, by omega⟩
   have hb : (UInt8.ofNat (x % 128 + 128)).toNat = x % 128 + 128 := by simp; omega
   have hm : (x % 128 + 128) % 128 = x % 128 := by omega
   rw [numF_ge g x hlt, List.cons_append, takeF, hb, if_pos (by omega), hm]
   have e : a + x % 128 * 128 ^ i + x / 128 * 128 ^ (i + 1) = a + x * 128 ^ i := by
    have : x * 128 ^ i = (x / 128 * 128 + x % 128) * 128 ^ i := by congr 1; omega
    rw [this, Nat.pow_succ, Nat.add_mul, Nat.mul_assoc (x / 128), Nat.mul_comm 128 (128 ^ i)]
    omega
   have hp : a + x % 128 * 128 ^ i < 128 ^ (i + 1) := by
    have h1 := Nat.mul_le_mul_right (128 ^ i) (show x % 128 <= 127 by omega)
    rw [Nat.pow_succ]; omega
   rw [ih f (i + 1) _ (x / 128) r (by rw [Nat.pow_succ] at hx; omega) (by omega) hp (by rw [e]; exact ht) (Or.inr (by omega)), e]
   simp; omega
theorem take_num (n : Nat) (r : List UInt8) (h : n < 18446744073709551616) : take (num n ++ r) = (n, (num n).length, 0) := by
 have := takeF_numF 9 10 0 0 n r (by omega) rfl (by simp) (by simpa using h) (Or.inl rfl)
 simpa [take, num] using this
/- a greater number has no shorter form -/
/- forms of unlike numbers do not begin with each other -/
end Pk
