/- Parts of these proofs, laid together. -/
import Derived.Test.YtojmhhmpmpbpfaaGreatDoorGQ
import Derived.Lib.AppendZeros
import Derived.Laws.AppendOwnNone
namespace Go.Proofs.YtojmhhmpmpbpfaaGreatDoor
open Go.RowKit Go.Maps
open Dk (Fl Fo St Ok Up zf emp used cutF fallA kf)
variable {X : Nat → Prop} {w w' : World} {r : Nat} {fa : Option Addr} {fc : Nat} {ka : Option Addr} {kc : Nat} {s : St}

theorem flat_take {α : Type} {f : α → List Value} {c : Nat} (hc : ∀ x, (f x).length = c) (L : List α) (i : Nat) (hi : i ≤ L.length) : (L.take i).flatMap f = (L.flatMap f).take (i * c) := by
  have h := congrArg (List.flatMap f) (List.take_append_drop i L)
  rw [List.flatMap_append] at h
  rw [← h, List.take_left' (by rw [flat_len hc, List.length_take, Nat.min_eq_left hi])]
theorem flat_drop {α : Type} {f : α → List Value} {c : Nat} (hc : ∀ x, (f x).length = c) (L : List α) (i : Nat) (hi : i ≤ L.length) : (L.drop i).flatMap f = (L.flatMap f).drop (i * c) := by
  have h := congrArg (List.flatMap f) (List.take_append_drop i L)
  rw [List.flatMap_append] at h
  rw [← h, List.drop_left' (by rw [flat_len hc, List.length_take, Nat.min_eq_left hi])]
theorem row_take {α : Type} {f : α → List Value} {c : Nat} (hc : ∀ x, (f x).length = c) {w : World} {ad : Option Addr} {L : List α} (h : RowAt f w ad L) (p : Nat) (hp : p ≤ L.length) : RowAt f w ad (L.take p) := by
  intro j u hu
  rw [flat_take hc L p hp, List.getElem?_take] at hu
  split at hu
  · exact h j u hu
  · cases hu
theorem row_drop {α : Type} {f : α → List Value} {c : Nat} (hc : ∀ x, (f x).length = c) {w : World} {a : Addr} {L : List α} (h : RowAt f w (some a) L) (p : Nat) (hp : p ≤ L.length) : RowAt f w (some (a.add (p * c))) (L.drop p) := by
  intro j u hu
  rw [flat_drop hc L p hp, List.getElem?_drop] at hu
  obtain ⟨b, off, e, hb, h1⟩ := h _ u hu
  cases e
  exact ⟨b, off + p * c, by rw [Addr.add_lit], hb, by rw [Nat.add_assoc]; exact h1⟩
theorem wpList_append_row {P : Program} {w : World} {ops : Array Oper} {rest : List Oper} {o : Oper} {a : Act} {Q : Exit → Act → World → Prop} (hgd : o.guard = none) (s x : Operand) (t : TypeId)
    (ho : o.op = .call { callee := .builtin .append, args := #[s, x], argTypes := #[t, t] })
    (base : Nat) (e : TypeId) (i : TypeInfo) (z : Value) (size bytes : Nat) (ht : P.underlying t = some (.slice e)) (hi : P.info? e = some i) (hz : i.zero = some z)
    (hsize : i.size = size) (hby : i.bytes = bytes) (hzs : z.cells.size = size) (hsz : 0 < size)
    (v : Value) (n : Nat) (xs : List Value) (hs : a.eval s = v) (hown : w.ownsRow base e size v n xs)
    {α : Type} {f : α → List Value} (hf : ∀ x, (f x).length = size) (L : List α) (ad : Option Addr) (c : Nat) (hx : a.eval x = .slice ad L.length c) (hc : ad = none → c = 0) (row : RowAt f w ad L) (h1 : ∀ u ∈ L.flatMap f, u.oneCell' = true)
    (h63 : n + L.length ≤ maxLen) (hbytes : (n + L.length) * bytes ≤ 140737488355328) (hbase : base ≤ w.heap.size)
    (h : ∀ v' w', w'.ownsRow base e size v' (n + L.length) (xs ++ L.flatMap f) → w.grownBy w' v.ownBlock → (v'.ownBlock = v.ownBlock ∨ v'.ownBlock = some w.heap.size) → wpList P ops Q rest (a.put o.dst v') w') :
    wpList P ops Q (o :: rest) a w := by
  cases ad with
  | none =>
    have hL := RowAt.none hf hsz row
    subst hL
    obtain rfl := hc rfl
    exact wpList_append_own_none hgd s x t ho base e i size ht hi v n xs hs hown hx (h v w (by simpa using hown) ⟨rfl, rfl, rfl, Nat.le_refl _, fun _ _ _ => rfl⟩ (Or.inl rfl))
  | some ad =>
    exact wpList_append_own_at w hgd s x t ho base e i z size bytes ht hi hz hsize hby hzs hsz v n xs hs hown ad L.length c (L.flatMap f) hx (flat_len hf L) row.news h1 h63 hbytes hbase (fun v' w' q1 q2 _ q4 => h v' w' q1 q2 q4)
def highAd (ad : Option Addr) (cap c : Nat) : Option Addr := if cap = c then ad else ad.map (·.add (c * 3))
theorem slice_low (ad : Option Addr) (n cap c : Nat) (hc : c ≤ n) (hn : n ≤ cap) (W : World) :
    (Instr.sliceAt 22 (.slice ad n cap) none (some (.int .i64 c)) none).run Tryz.prog W = .ok (.slice ad c cap) W := by
  have h1 : (c : Int) ≤ cap := by omega
  go_simp
theorem slice_high (ad : Option Addr) (n cap c : Nat) (hc : c ≤ n) (W : World) :
    (Instr.sliceAt 22 (.slice ad n cap) (some (.int .i64 c)) none none).run Tryz.prog W = .ok (.slice (highAd ad cap c) (n - c) (cap - c)) W := by
  have h1 : (c : Int) ≤ n := by omega
  go_simp
  unfold highAd
  rfl
theorem row_high {w : World} {ad : Option Addr} {l : List Fl} (h : RowAt flf w ad l) (cap c : Nat) (hl : l.length ≤ cap) : RowAt flf w (highAd ad cap c) (l.drop c) := by
  by_cases hc : c < l.length
  · obtain ⟨b, off, rfl, _⟩ := fl_at h 0 (by omega)
    unfold highAd
    rw [if_neg (by omega), Option.map_some]
    exact row_drop flf_len h c (by omega)
  · rw [List.drop_eq_nil_of_le (by omega)]; exact RowAt.nil
theorem own_lit0 (w : World) (base : Nat) (t : TypeId) (g : Nat) (hg : g = w.heap.size) (hb : base ≤ w.heap.size) : (w.alloc (.cells #[] t)).ownsRow base t 3 (.slice (some ⟨g, 0, none⟩) 0 0) 0 [] := by
  subst hg; exact World.ownsRow_lit w #[] 0 hb (by unfold maxLen; omega) rfl
theorem highAd_some {ad : Option Addr} {cap c : Nat} (h : ad ≠ none) : highAd ad cap c ≠ none := by
  unfold highAd
  split
  · exact h
  · cases ad with
    | none => exact absurd rfl h
    | some a => simp
/- what is left behind a step -/
theorem put_at {L : List Fl} (hu : Up L) {n : Int} (hh : Dk.has L n = true) {k : Int} (hf : Fo (Dk.get L n)) (h0 : 0 ≤ k) (h1 : k ≤ (Dk.get L n).d.size) :
    Dk.put (Dk.fst (Dk.get L n) k) L = L.take (ix L n) ++ (if k = 0 then [] else [Dk.fst (Dk.get L n) k]) ++ L.drop (ix L n + 1) := by
  obtain ⟨hl, e1, e2⟩ := ix_at hh
  have e : L.take (ix L n) ++ Dk.get L n :: L.drop (ix L n + 1) = L := by rw [← e1, ← List.drop_eq_getElem_cons hl, List.take_append_drop]
  generalize L.take (ix L n) = A at *
  generalize L.drop (ix L n + 1) = B at *
  have hem := (Dk.fst_emp hf h0 h1).1
  generalize Dk.get L n = g at *
  clear e1 e2 hl hh
  subst e
  unfold Dk.put
  rw [hem]
  by_cases c : k = 0
  · rw [if_pos (decide_eq_true c), if_pos c, Dk.del_mid hu (show (Dk.fst g k).n = g.n from rfl), List.append_nil]
  · rw [if_neg (by simpa using c), if_neg c, Dk.ins_mid hu (show (Dk.fst g k).n = g.n from rfl), List.append_assoc]
    rfl
theorem BoxAt.keepB {w w' : World} {g : Nat} {a b c : Value} (h : BoxAt w g a b c) (e : w'.heap[g]? = w.heap[g]?) (hs : w.heap.size ≤ w'.heap.size) : BoxAt w' g a b c :=
  ⟨(World.cell?_of_block (a := ⟨g, 0, none⟩) e).trans h.c0, (World.cell?_of_block (a := ⟨g, 1, none⟩) e).trans h.c1, (World.cell?_of_block (a := ⟨g, 2, none⟩) e).trans h.c2, (World.frozen?_of_block (a := ⟨g, 0, none⟩) e).trans h.f0, (World.frozen?_of_block (a := ⟨g, 1, none⟩) e).trans h.f1, (World.frozen?_of_block (a := ⟨g, 2, none⟩) e).trans h.f2, Nat.lt_of_lt_of_le h.lt hs⟩
set_option maxHeartbeats 4000000 in
set_option maxRecDepth 100000 in
theorem rstep_dead (h : RAt X w r fa fc ka kc s) (q n k : Int) (hd : s.dead = true) :
    Calls Tryz.prog 38 #[ptr r, .int .i64 q, .int .i64 n, .int .i64 k] w fun e w' => e = .returned (.int .i64 (Dk.stpE s q n k)) ∧ Rf X w' r (Dk.stpS s q n k) ∧ Tr w w' r := by
  rw [(stp_dead hd).1, (stp_dead hd).2]
  have c1 := h.gn
  rw [hd] at c1
  have HR : Hid (Rf X w r s) := ⟨_, _, _, _, h⟩
  clear h
  go_enter Tryz.func38, Tryz.ntmps38
  go_wp2
  go_ret
  exact ⟨rfl, HR.out, Tr.refl _ _⟩
set_option maxHeartbeats 4000000 in
set_option maxRecDepth 100000 in
theorem rstep_no (h : RAt X w r fa fc ka kc s) (q n k : Int) (hd : s.dead = false) (hh : Dk.has s.L n = false) :
    Calls Tryz.prog 38 #[ptr r, .int .i64 q, .int .i64 n, .int .i64 k] w fun e w' => e = .returned (.int .i64 (Dk.stpE s q n k)) ∧ Rf X w' r (Dk.stpS s q n k) ∧ Tr w w' r := by
  rw [(stp_no hd hh).1, (stp_no hd hh).2]
  have c1 := h.gn
  rw [hd] at c1
  have HA := Lib.hid (rat_any h n)
  unfold ixE at HA
  rw [hh] at HA
  have HR : Hid (Rf X w r s) := ⟨_, _, _, _, h⟩
  clear h
  go_enter Tryz.func38, Tryz.ntmps38
  go_wp2_with (go_at_call 66; refine HA.out.mono ?_; rintro e w' ⟨rfl, hw⟩; obtain rfl := hw.symm; clear hw)
  go_ret
  exact ⟨rfl, HR.out, Tr.refl _ _⟩
set_option maxHeartbeats 4000000 in
set_option maxRecDepth 100000 in
theorem rstep_bad (h : RAt X w r fa fc ka kc s) (n k : Int) (hd : s.dead = false) (hh : Dk.has s.L n = true) (hk : k < 1 ∨ ((Dk.get s.L n).d.size : Int) < k) :
    Calls Tryz.prog 38 #[ptr r, .int .i64 2, .int .i64 n, .int .i64 k] w fun e w' => e = .returned (.int .i64 (Dk.stpE s 2 n k)) ∧ Rf X w' r (Dk.stpS s 2 n k) ∧ Tr w w' r := by
  rw [(stp_bad hd hh hk).1, (stp_bad hd hh hk).2]
  have c1 := h.gn
  have c4 := h.fl
  rw [hd] at c1
  have HA := Lib.hid (rat_any h n)
  unfold ixE at HA
  rw [hh] at HA
  obtain ⟨hl, e1, e2⟩ := ix_at hh
  obtain ⟨x, off, hade, hxb, b0, b1, b2⟩ := fl_at h.row (ix s.L n) hl
  rw [e1] at b1
  have HR : Hid (Rf X w r s) := ⟨_, _, _, _, h⟩
  have hl8 := h.ok.len
  subst hade
  have hi0 : decide ((ix s.L n : Int) < 0) = false := decide_eq_false (by omega)
  clear h b0 b2 e1 e2
  generalize (Dk.get s.L n).d = gd at *
  generalize ix s.L n = i at *
  by_cases h1 : k < 1
  · go_enter Tryz.func38, Tryz.ntmps38
    go_wp2_with (go_at_call 66; refine HA.out.mono ?_; rintro e w' ⟨rfl, hw⟩; obtain rfl := hw.symm; clear hw)
    go_ret
    exact ⟨rfl, HR.out, Tr.refl _ _⟩
  · have h2 : (gd.size : Int) < k := by omega
    go_enter Tryz.func38, Tryz.ntmps38
    go_wp2_with (go_at_call 66; refine HA.out.mono ?_; rintro e w' ⟨rfl, hw⟩; obtain rfl := hw.symm; clear hw)
    go_ret
    exact ⟨rfl, HR.out, Tr.refl _ _⟩
set_option maxHeartbeats 16000000 in
set_option maxRecDepth 100000 in
theorem rstep_l1 (h : RAt X w r fa fc ka kc s) (n : Int) (hd : s.dead = false) (hh : Dk.has s.L n = true) (hls : lasB s = true) :
    Calls Tryz.prog 38 #[ptr r, .int .i64 1, .int .i64 n, .int .i64 0] w fun e w' => e = .returned (.int .i64 (Dk.stpE s 1 n 0)) ∧ Rf X w' r (Dk.stpS s 1 n 0) ∧ Tr w w' r := by
  have hk2 : ¬ ((1 : Int) = 2 ∧ ((0 : Int) < 1 ∨ ((Dk.get s.L n).d.size : Int) < 0)) := by omega
  rw [(stp_go hd hh hk2).1, (stp_go hd hh hk2).2]
  have c1 := h.gn
  have c4 := h.fl
  rw [hd] at c1
  have HA := Lib.hid (rat_any h n)
  unfold ixE at HA
  rw [hh] at HA
  have HLs := Lib.hid (rlast_any h)
  rw [hls] at HLs
  obtain ⟨hl, e1, e2⟩ := ix_at hh
  obtain ⟨x, off, hade, hxb, b0, b1, b2⟩ := fl_at h.row (ix s.L n) hl
  rw [e1] at b0 b1 b2
  have hl8 := h.ok.len
  have hi0 : decide ((ix s.L n : Int) < 0) = false := decide_eq_false (by omega)
  have hE := (cnt_yes hls).1
  have hS : Dk.chS s (Dk.fst (Dk.get s.L n) (Dk.siz 1 (Dk.get s.L n) 0)) = Dk.fall (lasS s) s.keep := by unfold Dk.chS; rw [hE, if_neg (by omega)]; exact (cnt_yes hls).2
  rw [hE, hS]
  have HFl : Hid (∀ wl, RAt X wl r fa fc ka kc (lasS s) → Calls Tryz.prog 68 #[ptr r, .slice ka s.keep.length kc] wl fun e w' => e = .returned (.tuple #[]) ∧ Rf X w' r (Dk.fall (lasS s) s.keep) ∧ Tr wl w' r) := fun wl hx => by
    have hkl : (lasS s).keep = s.keep := by unfold lasS; split <;> rfl
    have := rfall_any hx hx.krow
    rw [hkl] at this
    exact this
  have HKp : Hid (∀ wl, RAt X wl r fa fc ka kc (lasS s) → wl.cell? ⟨r, 3, none⟩ = some (.slice ka s.keep.length kc)) := fun wl hx => by
    have hkl : (lasS s).keep = s.keep := by unfold lasS; split <;> rfl
    have := hx.kp
    rw [hkl] at this
    exact this
  subst hade
  clear h e1 e2 hE hS hls
  generalize Dk.get s.L n = f at *
  generalize ix s.L n = i at *
  obtain ⟨fn, fd, fy⟩ := f
  try simp only at *
  go_enter Tryz.func38, Tryz.ntmps38
  go_wp2_with (go_at_call 66; refine HA.out.mono ?_; rintro e w' ⟨rfl, hw⟩; obtain rfl := hw.symm; clear hw)
  refine HLs.out.mono ?_
  rintro e wl ⟨rfl, hx, ht⟩
  have ck := HKp.out _ hx
  have HX := Lib.hid hx
  have HT := Lib.hid ht
  clear hx ht HLs c1 c4 b0 b1 b2
  go_wp2_with fail
  refine (HFl.out _ HX.out).mono ?_
  rintro e wm ⟨rfl, hr, ht⟩
  have HR := Lib.hid hr
  have HT2 := Lib.hid (HT.out.trans ht)
  clear hr ht
  go_wp2
  go_ret
  exact ⟨rfl, HR.out, HT2.out⟩
set_option maxHeartbeats 16000000 in
set_option maxRecDepth 100000 in
theorem rstep_g1 (h : RAt X w r fa fc ka kc s) (n : Int) (hd : s.dead = false) (hh : Dk.has s.L n = true) (hls : lasB s = false) :
    Calls Tryz.prog 38 #[ptr r, .int .i64 1, .int .i64 n, .int .i64 0] w fun e w' => e = .returned (.int .i64 (Dk.stpE s 1 n 0)) ∧ Rf X w' r (Dk.stpS s 1 n 0) ∧ Tr w w' r := by
  have hk2 : ¬ ((1 : Int) = 2 ∧ ((0 : Int) < 1 ∨ ((Dk.get s.L n).d.size : Int) < 0)) := by omega
  rw [(stp_go hd hh hk2).1, (stp_go hd hh hk2).2]
  have c1 := h.gn
  have c4 := h.fl
  rw [hd] at c1
  have HA := Lib.hid (rat_any h n)
  unfold ixE at HA
  rw [hh] at HA
  have HLs := Lib.hid (rlast_any h)
  rw [hls] at HLs
  obtain ⟨hl, e1, e2⟩ := ix_at hh
  obtain ⟨x, off, hade, hxb, b0, b1, b2⟩ := fl_at h.row (ix s.L n) hl
  rw [e1] at b0 b1 b2
  have hl8 := h.ok.len
  have hi0 : decide ((ix s.L n : Int) < 0) = false := decide_eq_false (by omega)
  have hE := (cnt_no h.ok hls).1
  obtain ⟨hg1, hg2⟩ := Dk.get_mem hh
  have hfo := h.ok.fo _ hg1
  have hsd := hfo.d1
  obtain ⟨hz0, hz1⟩ := Dk.siz_in hk2
  have hkL : (Dk.cntS s).L = s.L := Dk.cnt_L hE
  have hS : Dk.chS s (Dk.fst (Dk.get s.L n) (Dk.siz 1 (Dk.get s.L n) 0)) = { lasS s with L := s.L.take (ix s.L n) ++ [Dk.fst (Dk.get s.L n) ((Dk.get s.L n).d.size : Int)] ++ s.L.drop (ix s.L n + 1) } := by
    unfold Dk.chS
    rw [if_pos hE, (cnt_no h.ok hls).2, put_at h.ok.up hh hfo hz0 hz1]
    rw [show Dk.siz 1 (Dk.get s.L n) 0 = ((Dk.get s.L n).d.size : Int) by simp [Dk.siz]]
    rw [if_neg (by omega)]
  have hokS := h.ok.ch hg1 hz0 hz1
  rw [hS] at hokS
  rw [hE, hS]
  have HOk := Lib.hid hokS
  have HL : Hid ((lasS s).L = s.L) := by show _ = _; unfold lasS; split <;> rfl
  have hfc := h.cap
  have hfcm := h.capm
  have hfan : fa ≠ none := by rw [hade]; simp
  obtain ⟨A, hA⟩ : ∃ A, A = s.L.take (ix s.L n) := ⟨_, rfl⟩
  obtain ⟨B, hB⟩ : ∃ B, B = s.L.drop (ix s.L n + 1) := ⟨_, rfl⟩
  have hAl : A.length = ix s.L n := by rw [hA, List.length_take]; omega
  have hBl : B.length = s.L.length - (ix s.L n + 1) := by rw [hB, List.length_drop]
  have HRA : Hid (∀ W, RowAt flf W fa s.L → RowAt flf W fa A) := fun W hr => by rw [hA]; exact row_take flf_len hr _ (by omega)
  have HRB : Hid (∀ W, RowAt flf W fa s.L → RowAt flf W (highAd fa fc (ix s.L n + 1)) B) := fun W hr => by rw [hB]; exact row_high hr fc _ hfc
  have hlow : ∀ W, (Instr.sliceAt 22 (.slice fa s.L.length fc) none (some (.int .i64 (ix s.L n : Int))) none).run Tryz.prog W = .ok (.slice fa A.length fc) W := fun W => by rw [hAl]; exact slice_low fa s.L.length fc (ix s.L n) (by omega) hfc W
  have hhigh : ∀ W, (Instr.sliceAt 22 (.slice fa s.L.length fc) (some (.int .i64 ((ix s.L n : Int) + 1))) none none).run Tryz.prog W = .ok (.slice (highAd fa fc (ix s.L n + 1)) B.length (fc - (ix s.L n + 1))) W := fun W => by rw [hBl]; exact slice_high fa s.L.length fc (ix s.L n + 1) (by omega) W
  rw [← hA, ← hB] at HOk
  have HAe := Lib.hid hA
  have HBe := Lib.hid hB
  have hhn := highAd_some (cap := fc) (c := ix s.L n + 1) hfan
  obtain ⟨i0, hi0', hz0', hz1', hz2'⟩ := info_parts infoF
  have HFs : Hid (Dk.fst (Dk.get s.L n) ((Dk.get s.L n).d.size : Int) = ⟨(Dk.get s.L n).n, (Dk.get s.L n).d, ((Dk.get s.L n).d.size : Int)⟩) := by
    show Dk.fst _ _ = _
    unfold Dk.fst
    rw [Dk.ex_all _ (by omega)]
  rw [HFs.out] at HOk
  have HAl := Lib.hid hAl
  have HBl := Lib.hid hBl
  have E1 := Lib.hid e1
  clear h hE hS hls e1 hfo hg1 hg2 hokS hz0 hz1 hkL hA hB hAl hBl
  generalize Dk.get s.L n = f at *
  generalize ix s.L n = i at *
  obtain ⟨fn, fd, fy⟩ := f
  try simp only at *
  subst hade
  generalize hhA : highAd (some ⟨x, off, none⟩) fc (i + 1) = ha at *
  go_enter Tryz.func38, Tryz.ntmps38
  go_wp2_with (go_at_call 66; refine HA.out.mono ?_; rintro e w' ⟨rfl, hw⟩; obtain rfl := hw.symm; clear hw)
  refine HLs.out.mono ?_
  rintro e wl ⟨rfl, hx, ht⟩
  have c4 := hx.fl
  rw [HL.out] at c4
  have f4 := hx.fz 4 (by omega)
  have hrl := hx.lt
  have HX := Lib.hid hx
  have HT := Lib.hid ht
  have hrow := hx.row
  rw [HL.out] at hrow
  obtain ⟨x', off', hade', hxb', b0', b1', b2'⟩ := fl_at hrow i hl
  cases hade'
  rw [E1.out] at b0' b1' b2'
  have HRw := Lib.hid hrow
  have hsz := HT.out.size
  clear hx ht HLs c1 b0 b1 b2 hrow
  have BX0 := BoxAt.new wl (.int .i64 fn) (.string fd) (.int .i64 fy) 24 _ rfl
  have c4a := ((Gr.refl wl).alloc (o := .cells #[.int .i64 fn, .string fd, .int .i64 fy] 24)).keep c4
  have c4b := (((Gr.refl wl).alloc (o := .cells #[.int .i64 fn, .string fd, .int .i64 fy] 24)).alloc (o := .cells #[] 24)).keep c4
  have hs2 : ((wl.alloc (.cells #[.int .i64 fn, .string fd, .int .i64 fy] 24)).alloc (.cells #[] 24)).heap.size = wl.heap.size + 1 + 1 := by simp
  have Lit1 := Lib.hid (own_lit0 (wl.alloc (.cells #[.int .i64 fn, .string fd, .int .i64 fy] 24)) (wl.heap.size + 1) 24 (wl.heap.size + 1) (by simp) (by simp))
  have RB2 := Lib.hid (HRB.out _ (HRw.out.gr (((Gr.refl wl).alloc (o := .cells #[.int .i64 fn, .string fd, .int .i64 fy] 24)).alloc (o := .cells #[] 24))))
  have BX2 := Lib.hid (BX0.gr ((Gr.refl _).alloc (o := .cells #[] 24)))
  go_wp2_with (first
    | (at_builtin; refine wpList_append_row rfl _ _ 22 rfl (wl.heap.size + 1) 24 i0 (.agg #[.int .i64 0, .string ⟨#[]⟩, .int .i64 0]) 3 32 Tryz.underlying22 hi0' hz0' hz1' hz2' rfl (by decide) _ 0 [] rfl Lit1.out flf_len B ha (fc - (i + 1)) rfl (fun e => absurd e hhn) RB2.out (flf_one _) (by have := HBl.out; unfold maxLen; omega) (by have := HBl.out; omega) (by omega) ?_)
    | fail)
  intro v1 w1 ho1 hgr1 _
  try simp only [Nat.zero_add, List.nil_append] at ho1
  have G1 := Lib.hid (own_gr Lit1.out ((Gr.refl wl).alloc.alloc) hgr1 (by omega))
  have BX1 := Lib.hid (BX2.out.keepB (hgr1.block wl.heap.size BX2.out.lt (fun e => by simp [Value.ownBlock] at e)) hgr1.size)
  have hs1 := hgr1.size
  have O1 := Lib.hid ho1
  obtain ⟨a1, k1, rfl⟩ := own_slice ho1
  clear ho1 hgr1 Lit1 RB2 BX2 BX0 c4a c4b b0' b1' b2'
  have c4c := G1.out.keep c4
  have c4d := (G1.out.alloc (o := .cells #[] 24)).keep c4
  have Lit2 := Lib.hid (own_lit0 w1 w1.heap.size 24 w1.heap.size rfl (Nat.le_refl _))
  have RA3 := Lib.hid (HRA.out _ (HRw.out.gr (G1.out.alloc (o := .cells #[] 24))))
  go_wp2_with (first
    | (at_builtin; refine wpList_append_row rfl _ _ 22 rfl w1.heap.size 24 i0 (.agg #[.int .i64 0, .string ⟨#[]⟩, .int .i64 0]) 3 32 Tryz.underlying22 hi0' hz0' hz1' hz2' rfl (by decide) _ 0 [] rfl Lit2.out flf_len A (some ⟨x, off, none⟩) fc rfl (fun e => by cases e) RA3.out (flf_one _) (by have := HAl.out; unfold maxLen; omega) (by have := HAl.out; omega) (by simp) ?_)
    | fail)
  intro v2 w2 ho2 hgr2 _
  try simp only [Nat.zero_add, List.nil_append] at ho2
  have G2 := Lib.hid (own_gr Lit2.out G1.out.alloc hgr2 (by omega))
  have hs3 := hgr2.size
  simp at hs3
  have HJ : Hid (∀ j, (Value.slice a1 B.length k1).ownBlock = some j → j < w1.heap.size) := fun j hj => (O1.out.lt j hj).2
  have O1b := Lib.hid (row_keep (row_gr O1.out ((Gr.refl w1).alloc (o := .cells #[] 24))) (fun j hj => hgr2.block j (by have := (O1.out.lt j hj).2; simp; omega) (fun e => by have := (O1.out.lt j hj).2; simp [Value.ownBlock] at e; omega)))
  have BXb := Lib.hid ((BX1.out.gr ((Gr.refl w1).alloc (o := .cells #[] 24))).keepB (hgr2.block wl.heap.size (by have := BX1.out.lt; simp; omega) (fun e => by have := BX1.out.lt; simp [Value.ownBlock] at e; omega)) hgr2.size)
  have O2 := Lib.hid ho2
  obtain ⟨a2, k2, rfl⟩ := own_slice ho2
  clear ho2 hgr2 Lit2 RA3 O1 BX1 c4c c4d
  obtain ⟨d0, d1, d2, g0, g1, g2, glt⟩ := BXb.out
  go_upto_region 17 with fail
  obtain ⟨wb, hwb⟩ : ∃ wb, wb = w2.setCell ⟨wl.heap.size, 2, none⟩ (.int .i64 (fd.size : Int)) := ⟨_, rfl⟩
  rw [← hwb]
  have GBb : Hid (Gr wl wb) := by show Gr wl wb; rw [hwb]; exact G2.out.set _ (Nat.le_refl _) _
  have hbsz : wb.heap.size = w2.heap.size := by rw [hwb]; simp [World.setCell]
  have hbk : ∀ j, j ≠ wl.heap.size → wb.heap[j]? = w2.heap[j]? := fun j hj => by rw [hwb]; exact Below.heap_setCell _ _ _ j hj
  have O1c := Lib.hid (row_keep O1b.out (fun j hj => hbk j (by have := (O1b.out.lt j hj).1; omega)))
  have O2c := Lib.hid (row_keep O2.out (fun j hj => hbk j (by have := (O2.out.lt j hj).1; omega)))
  have BXc : BoxAt wb wl.heap.size (.int .i64 fn) (.string fd) (.int .i64 (fd.size : Int)) := by
    rw [hwb]
    exact ⟨by simp [go_sem, *], by simp [go_sem, *], by simp [go_sem, *], by simp [go_sem, *], by simp [go_sem, *], by simp [go_sem, *], by simpa [World.setCell] using glt⟩
  have HBz := Lib.hid hbsz
  clear hbk hwb d0 d1 d2 g0 g1 g2 BXb O1b O2 G2 hbsz
  obtain ⟨d0, d1, d2, _, _, _, _⟩ := BXc
  have Ra := Lib.hid (row_gr O2c.out ((Gr.refl wb).alloc (o := .cells #[.int .i64 fn, .string fd, .int .i64 (fd.size : Int)] 24)))
  have Na := Lib.hid (fl_new wb ⟨fn, fd, (fd.size : Int)⟩)
  go_wp2_with (first
    | (at_builtin; refine wpList_append_own _ rfl _ _ 22 rfl w1.heap.size 24 i0 (.agg #[.int .i64 0, .string ⟨#[]⟩, .int .i64 0]) 3 32 Tryz.underlying22 hi0' hz0' hz1' hz2' rfl (by decide) _ _ _ rfl Ra.out ⟨wb.heap.size, 0, none⟩ 1 1 ([(⟨fn, fd, (fd.size : Int)⟩ : Fl)].flatMap flf) rfl rfl Na.out (flf_one _) (by have := HAl.out; unfold maxLen; omega) (by have := HAl.out; omega) (by have := HBz.out; simp; omega) ?_)
    | fail)
  intro v3 w3 ho3 hgr3 _
  have G3 := Lib.hid (own_gr Ra.out GBb.out.alloc hgr3 (by have := G1.out.size; omega))
  have O1d := Lib.hid (row_keep (row_gr O1c.out ((Gr.refl wb).alloc (o := .cells #[.int .i64 fn, .string fd, .int .i64 (fd.size : Int)] 24))) (fun j hj => hgr3.block j (by have := (O1c.out.lt j hj).2; simp; omega) (fun e => by have h7 := (O2c.out.lt j e.symm).1; have h8 := HJ.out j hj; omega)))
  have hs3' := hgr3.size
  rw [show (wb.alloc (.cells #[.int .i64 fn, .string fd, .int .i64 (fd.size : Int)] 24)).heap.size = wb.heap.size + 1 by simp, HBz.out] at hs3'
  have O3 := Lib.hid ho3
  obtain ⟨a3, k3, rfl⟩ := own_slice ho3
  clear ho3 hgr3 Ra Na O1c O2c d0 d1 d2
  obtain ⟨_, _, he1, _, _, hr1, _, hn1⟩ := own_row O1d.out
  cases he1
  have R1 := Lib.hid hr1
  clear hr1
  have c4e := G3.out.keep c4
  go_wp2_with (first
    | (at_builtin; refine wpList_append_row rfl _ _ 22 rfl w1.heap.size 24 i0 (.agg #[.int .i64 0, .string ⟨#[]⟩, .int .i64 0]) 3 32 Tryz.underlying22 hi0' hz0' hz1' hz2' rfl (by decide) _ _ _ rfl O3.out flf_len B a1 k1 rfl hn1 R1.out (flf_one _) (by have := HAl.out; have := HBl.out; unfold maxLen; omega) (by have := HAl.out; have := HBl.out; omega) (by omega) ?_)
    | fail)
  intro v4 w4 ho4 hgr4 _
  have G4 := Lib.hid (own_gr O3.out G3.out hgr4 (by have := G1.out.size; omega))
  have hM : w4.ownsRow w1.heap.size 24 3 v4 (A ++ [(⟨fn, fd, (fd.size : Int)⟩ : Fl)] ++ B).length ((A ++ [(⟨fn, fd, (fd.size : Int)⟩ : Fl)] ++ B).flatMap flf) := by
    rw [List.flatMap_append, List.flatMap_append, List.length_append, List.length_append]
    simpa using ho4
  obtain ⟨a4, k4, rfl, hc1, hc2, hrow4, hb4, _⟩ := own_row hM
  have HXf := Lib.hid ((HX.out.gr G4.out).setFiles (L := (A ++ [(⟨fn, fd, (fd.size : Int)⟩ : Fl)] ++ B)) hrow4 (fun p e => ⟨by have := hb4 p e; have := G1.out.size; omega, fun hx => by have := hb4 p e; have := HX.out.xl _ hx; have := G1.out.size; omega⟩) hc1 hc2 HOk.out)
  have HTf := Lib.hid ((HT.out.trans (Tr.gr G4.out)).trans (Tr.set w4 r 4 (.slice a4 (A ++ [(⟨fn, fd, (fd.size : Int)⟩ : Fl)] ++ B).length k4)))
  have c4f := G4.out.keep c4
  have f4f := G4.out.keepF hrl f4
  clear ho4 hgr4 hM hrow4 hb4 c4e
  generalize (A ++ [(⟨fn, fd, (fd.size : Int)⟩ : Fl)] ++ B).length = lm at *
  go_wp2
  go_ret
  exact ⟨rfl, by (rw [← HAe.out, ← HBe.out, HFs.out]; exact ⟨_, _, _, _, HXf.out⟩), HTf.out⟩
set_option maxHeartbeats 16000000 in
set_option maxRecDepth 100000 in
theorem rstep_l2 (h : RAt X w r fa fc ka kc s) (n k : Int) (hd : s.dead = false) (hh : Dk.has s.L n = true) (hk : ¬ (k < 1 ∨ ((Dk.get s.L n).d.size : Int) < k)) (hls : lasB s = true) :
    Calls Tryz.prog 38 #[ptr r, .int .i64 2, .int .i64 n, .int .i64 k] w fun e w' => e = .returned (.int .i64 (Dk.stpE s 2 n k)) ∧ Rf X w' r (Dk.stpS s 2 n k) ∧ Tr w w' r := by
  have hk2 : ¬ ((2 : Int) = 2 ∧ ((k : Int) < 1 ∨ ((Dk.get s.L n).d.size : Int) < k)) := by exact fun e => hk e.2
  rw [(stp_go hd hh hk2).1, (stp_go hd hh hk2).2]
  have c1 := h.gn
  have c4 := h.fl
  rw [hd] at c1
  have HA := Lib.hid (rat_any h n)
  unfold ixE at HA
  rw [hh] at HA
  have HLs := Lib.hid (rlast_any h)
  rw [hls] at HLs
  obtain ⟨hl, e1, e2⟩ := ix_at hh
  obtain ⟨x, off, hade, hxb, b0, b1, b2⟩ := fl_at h.row (ix s.L n) hl
  rw [e1] at b0 b1 b2
  have hl8 := h.ok.len
  have hi0 : decide ((ix s.L n : Int) < 0) = false := decide_eq_false (by omega)
  have hk1 : decide (k < 1) = false := decide_eq_false (by omega)
  have hk3 : decide (((Dk.get s.L n).d.size : Int) < k) = false := decide_eq_false (by omega)
  have hE := (cnt_yes hls).1
  have hS : Dk.chS s (Dk.fst (Dk.get s.L n) (Dk.siz 2 (Dk.get s.L n) k)) = Dk.fall (lasS s) s.keep := by unfold Dk.chS; rw [hE, if_neg (by omega)]; exact (cnt_yes hls).2
  rw [hE, hS]
  have HFl : Hid (∀ wl, RAt X wl r fa fc ka kc (lasS s) → Calls Tryz.prog 68 #[ptr r, .slice ka s.keep.length kc] wl fun e w' => e = .returned (.tuple #[]) ∧ Rf X w' r (Dk.fall (lasS s) s.keep) ∧ Tr wl w' r) := fun wl hx => by
    have hkl : (lasS s).keep = s.keep := by unfold lasS; split <;> rfl
    have := rfall_any hx hx.krow
    rw [hkl] at this
    exact this
  have HKp : Hid (∀ wl, RAt X wl r fa fc ka kc (lasS s) → wl.cell? ⟨r, 3, none⟩ = some (.slice ka s.keep.length kc)) := fun wl hx => by
    have hkl : (lasS s).keep = s.keep := by unfold lasS; split <;> rfl
    have := hx.kp
    rw [hkl] at this
    exact this
  subst hade
  clear h e1 e2 hE hS hls
  generalize Dk.get s.L n = f at *
  generalize ix s.L n = i at *
  obtain ⟨fn, fd, fy⟩ := f
  try simp only at *
  go_enter Tryz.func38, Tryz.ntmps38
  go_wp2_with (go_at_call 66; refine HA.out.mono ?_; rintro e w' ⟨rfl, hw⟩; obtain rfl := hw.symm; clear hw)
  refine HLs.out.mono ?_
  rintro e wl ⟨rfl, hx, ht⟩
  have ck := HKp.out _ hx
  have HX := Lib.hid hx
  have HT := Lib.hid ht
  clear hx ht HLs c1 c4 b0 b1 b2
  go_wp2_with fail
  refine (HFl.out _ HX.out).mono ?_
  rintro e wm ⟨rfl, hr, ht⟩
  have HR := Lib.hid hr
  have HT2 := Lib.hid (HT.out.trans ht)
  clear hr ht
  go_wp2
  go_ret
  exact ⟨rfl, HR.out, HT2.out⟩
set_option maxHeartbeats 16000000 in
set_option maxRecDepth 100000 in
theorem rstep_g2 (h : RAt X w r fa fc ka kc s) (n k : Int) (hd : s.dead = false) (hh : Dk.has s.L n = true) (hk : ¬ (k < 1 ∨ ((Dk.get s.L n).d.size : Int) < k)) (hls : lasB s = false) :
    Calls Tryz.prog 38 #[ptr r, .int .i64 2, .int .i64 n, .int .i64 k] w fun e w' => e = .returned (.int .i64 (Dk.stpE s 2 n k)) ∧ Rf X w' r (Dk.stpS s 2 n k) ∧ Tr w w' r := by
  have hk2 : ¬ ((2 : Int) = 2 ∧ ((k : Int) < 1 ∨ ((Dk.get s.L n).d.size : Int) < k)) := by exact fun e => hk e.2
  rw [(stp_go hd hh hk2).1, (stp_go hd hh hk2).2]
  have c1 := h.gn
  have c4 := h.fl
  rw [hd] at c1
  have HA := Lib.hid (rat_any h n)
  unfold ixE at HA
  rw [hh] at HA
  have HLs := Lib.hid (rlast_any h)
  rw [hls] at HLs
  obtain ⟨hl, e1, e2⟩ := ix_at hh
  obtain ⟨x, off, hade, hxb, b0, b1, b2⟩ := fl_at h.row (ix s.L n) hl
  rw [e1] at b0 b1 b2
  have hl8 := h.ok.len
  have hi0 : decide ((ix s.L n : Int) < 0) = false := decide_eq_false (by omega)
  have hk1 : decide (k < 1) = false := decide_eq_false (by omega)
  have hk3 : decide (((Dk.get s.L n).d.size : Int) < k) = false := decide_eq_false (by omega)
  have hE := (cnt_no h.ok hls).1
  obtain ⟨hg1, hg2⟩ := Dk.get_mem hh
  have hfo := h.ok.fo _ hg1
  have hsd := hfo.d1
  obtain ⟨hz0, hz1⟩ := Dk.siz_in hk2
  have hkL : (Dk.cntS s).L = s.L := Dk.cnt_L hE
  have hS : Dk.chS s (Dk.fst (Dk.get s.L n) (Dk.siz 2 (Dk.get s.L n) k)) = { lasS s with L := s.L.take (ix s.L n) ++ [Dk.fst (Dk.get s.L n) k] ++ s.L.drop (ix s.L n + 1) } := by
    unfold Dk.chS
    rw [if_pos hE, (cnt_no h.ok hls).2, put_at h.ok.up hh hfo hz0 hz1]
    rw [show Dk.siz 2 (Dk.get s.L n) k = k by simp [Dk.siz]]
    rw [if_neg (by omega)]
  have hokS := h.ok.ch hg1 hz0 hz1
  rw [hS] at hokS
  rw [hE, hS]
  have HOk := Lib.hid hokS
  have HL : Hid ((lasS s).L = s.L) := by show _ = _; unfold lasS; split <;> rfl
  have hfc := h.cap
  have hfcm := h.capm
  have hfan : fa ≠ none := by rw [hade]; simp
  obtain ⟨A, hA⟩ : ∃ A, A = s.L.take (ix s.L n) := ⟨_, rfl⟩
  obtain ⟨B, hB⟩ : ∃ B, B = s.L.drop (ix s.L n + 1) := ⟨_, rfl⟩
  have hAl : A.length = ix s.L n := by rw [hA, List.length_take]; omega
  have hBl : B.length = s.L.length - (ix s.L n + 1) := by rw [hB, List.length_drop]
  have HRA : Hid (∀ W, RowAt flf W fa s.L → RowAt flf W fa A) := fun W hr => by rw [hA]; exact row_take flf_len hr _ (by omega)
  have HRB : Hid (∀ W, RowAt flf W fa s.L → RowAt flf W (highAd fa fc (ix s.L n + 1)) B) := fun W hr => by rw [hB]; exact row_high hr fc _ hfc
  have hlow : ∀ W, (Instr.sliceAt 22 (.slice fa s.L.length fc) none (some (.int .i64 (ix s.L n : Int))) none).run Tryz.prog W = .ok (.slice fa A.length fc) W := fun W => by rw [hAl]; exact slice_low fa s.L.length fc (ix s.L n) (by omega) hfc W
  have hhigh : ∀ W, (Instr.sliceAt 22 (.slice fa s.L.length fc) (some (.int .i64 ((ix s.L n : Int) + 1))) none none).run Tryz.prog W = .ok (.slice (highAd fa fc (ix s.L n + 1)) B.length (fc - (ix s.L n + 1))) W := fun W => by rw [hBl]; exact slice_high fa s.L.length fc (ix s.L n + 1) (by omega) W
  rw [← hA, ← hB] at HOk
  have HAe := Lib.hid hA
  have HBe := Lib.hid hB
  have hhn := highAd_some (cap := fc) (c := ix s.L n + 1) hfan
  obtain ⟨kn, rfl⟩ : ∃ kn : Nat, k = (kn : Int) := ⟨k.toNat, by omega⟩
  have hkn : kn ≤ (Dk.get s.L n).d.size := by omega
  obtain ⟨i0, hi0', hz0', hz1', hz2'⟩ := info_parts infoF
  have HFs : Hid (Dk.fst (Dk.get s.L n) (kn : Int) = ⟨(Dk.get s.L n).n, (Dk.get s.L n).d.extract 0 kn, (kn : Int)⟩) := rfl
  rw [HFs.out] at HOk
  have HAl := Lib.hid hAl
  have HBl := Lib.hid hBl
  have E1 := Lib.hid e1
  clear h hE hS hls e1 hfo hg1 hg2 hokS hz0 hz1 hkL hA hB hAl hBl
  generalize Dk.get s.L n = f at *
  generalize ix s.L n = i at *
  obtain ⟨fn, fd, fy⟩ := f
  try simp only at *
  subst hade
  generalize hhA : highAd (some ⟨x, off, none⟩) fc (i + 1) = ha at *
  go_enter Tryz.func38, Tryz.ntmps38
  go_wp2_with (go_at_call 66; refine HA.out.mono ?_; rintro e w' ⟨rfl, hw⟩; obtain rfl := hw.symm; clear hw)
  refine HLs.out.mono ?_
  rintro e wl ⟨rfl, hx, ht⟩
  have c4 := hx.fl
  rw [HL.out] at c4
  have f4 := hx.fz 4 (by omega)
  have hrl := hx.lt
  have HX := Lib.hid hx
  have HT := Lib.hid ht
  have hrow := hx.row
  rw [HL.out] at hrow
  obtain ⟨x', off', hade', hxb', b0', b1', b2'⟩ := fl_at hrow i hl
  cases hade'
  rw [E1.out] at b0' b1' b2'
  have HRw := Lib.hid hrow
  have hsz := HT.out.size
  clear hx ht HLs c1 b0 b1 b2 hrow
  have BX0 := BoxAt.new wl (.int .i64 fn) (.string fd) (.int .i64 fy) 24 _ rfl
  have c4a := ((Gr.refl wl).alloc (o := .cells #[.int .i64 fn, .string fd, .int .i64 fy] 24)).keep c4
  have c4b := (((Gr.refl wl).alloc (o := .cells #[.int .i64 fn, .string fd, .int .i64 fy] 24)).alloc (o := .cells #[] 24)).keep c4
  have hs2 : ((wl.alloc (.cells #[.int .i64 fn, .string fd, .int .i64 fy] 24)).alloc (.cells #[] 24)).heap.size = wl.heap.size + 1 + 1 := by simp
  have Lit1 := Lib.hid (own_lit0 (wl.alloc (.cells #[.int .i64 fn, .string fd, .int .i64 fy] 24)) (wl.heap.size + 1) 24 (wl.heap.size + 1) (by simp) (by simp))
  have RB2 := Lib.hid (HRB.out _ (HRw.out.gr (((Gr.refl wl).alloc (o := .cells #[.int .i64 fn, .string fd, .int .i64 fy] 24)).alloc (o := .cells #[] 24))))
  have BX2 := Lib.hid (BX0.gr ((Gr.refl _).alloc (o := .cells #[] 24)))
  go_wp2_with (first
    | (at_builtin; refine wpList_append_row rfl _ _ 22 rfl (wl.heap.size + 1) 24 i0 (.agg #[.int .i64 0, .string ⟨#[]⟩, .int .i64 0]) 3 32 Tryz.underlying22 hi0' hz0' hz1' hz2' rfl (by decide) _ 0 [] rfl Lit1.out flf_len B ha (fc - (i + 1)) rfl (fun e => absurd e hhn) RB2.out (flf_one _) (by have := HBl.out; unfold maxLen; omega) (by have := HBl.out; omega) (by omega) ?_)
    | fail)
  intro v1 w1 ho1 hgr1 _
  try simp only [Nat.zero_add, List.nil_append] at ho1
  have G1 := Lib.hid (own_gr Lit1.out ((Gr.refl wl).alloc.alloc) hgr1 (by omega))
  have BX1 := Lib.hid (BX2.out.keepB (hgr1.block wl.heap.size BX2.out.lt (fun e => by simp [Value.ownBlock] at e)) hgr1.size)
  have hs1 := hgr1.size
  have O1 := Lib.hid ho1
  obtain ⟨a1, k1, rfl⟩ := own_slice ho1
  clear ho1 hgr1 Lit1 RB2 BX2 BX0 c4a c4b b0' b1' b2'
  have c4c := G1.out.keep c4
  have c4d := (G1.out.alloc (o := .cells #[] 24)).keep c4
  have Lit2 := Lib.hid (own_lit0 w1 w1.heap.size 24 w1.heap.size rfl (Nat.le_refl _))
  have RA3 := Lib.hid (HRA.out _ (HRw.out.gr (G1.out.alloc (o := .cells #[] 24))))
  go_wp2_with (first
    | (at_builtin; refine wpList_append_row rfl _ _ 22 rfl w1.heap.size 24 i0 (.agg #[.int .i64 0, .string ⟨#[]⟩, .int .i64 0]) 3 32 Tryz.underlying22 hi0' hz0' hz1' hz2' rfl (by decide) _ 0 [] rfl Lit2.out flf_len A (some ⟨x, off, none⟩) fc rfl (fun e => by cases e) RA3.out (flf_one _) (by have := HAl.out; unfold maxLen; omega) (by have := HAl.out; omega) (by simp) ?_)
    | fail)
  intro v2 w2 ho2 hgr2 _
  try simp only [Nat.zero_add, List.nil_append] at ho2
  have G2 := Lib.hid (own_gr Lit2.out G1.out.alloc hgr2 (by omega))
  have hs3 := hgr2.size
  simp at hs3
  have HJ : Hid (∀ j, (Value.slice a1 B.length k1).ownBlock = some j → j < w1.heap.size) := fun j hj => (O1.out.lt j hj).2
  have O1b := Lib.hid (row_keep (row_gr O1.out ((Gr.refl w1).alloc (o := .cells #[] 24))) (fun j hj => hgr2.block j (by have := (O1.out.lt j hj).2; simp; omega) (fun e => by have := (O1.out.lt j hj).2; simp [Value.ownBlock] at e; omega)))
  have BXb := Lib.hid ((BX1.out.gr ((Gr.refl w1).alloc (o := .cells #[] 24))).keepB (hgr2.block wl.heap.size (by have := BX1.out.lt; simp; omega) (fun e => by have := BX1.out.lt; simp [Value.ownBlock] at e; omega)) hgr2.size)
  have O2 := Lib.hid ho2
  obtain ⟨a2, k2, rfl⟩ := own_slice ho2
  clear ho2 hgr2 Lit2 RA3 O1 BX1 c4c c4d
  obtain ⟨d0, d1, d2, g0, g1, g2, glt⟩ := BXb.out
  have hexs : ((fd.extract 0 kn).size : Int) = (kn : Int) := by simp; omega
  go_upto_region 17 with fail
  obtain ⟨wb, hwb⟩ : ∃ wb, wb = (w2.setCell ⟨wl.heap.size, 1, none⟩ (.string (fd.extract 0 kn))).setCell ⟨wl.heap.size, 2, none⟩ (.int .i64 (kn : Int)) := ⟨_, rfl⟩
  rw [← hwb]
  have GBb : Hid (Gr wl wb) := by show Gr wl wb; rw [hwb]; exact (G2.out.set _ (Nat.le_refl _) _).set _ (Nat.le_refl _) _
  have hbsz : wb.heap.size = w2.heap.size := by rw [hwb]; simp [World.setCell]
  have hbk : ∀ j, j ≠ wl.heap.size → wb.heap[j]? = w2.heap[j]? := fun j hj => by rw [hwb]; rw [Below.heap_setCell _ _ _ j hj, Below.heap_setCell _ _ _ j hj]
  have O1c := Lib.hid (row_keep O1b.out (fun j hj => hbk j (by have := (O1b.out.lt j hj).1; omega)))
  have O2c := Lib.hid (row_keep O2.out (fun j hj => hbk j (by have := (O2.out.lt j hj).1; omega)))
  have BXc : BoxAt wb wl.heap.size (.int .i64 fn) (.string (fd.extract 0 kn)) (.int .i64 (kn : Int)) := by
    rw [hwb]
    exact ⟨by simp [go_sem, *], by simp [go_sem, *], by simp [go_sem, *], by simp [go_sem, *], by simp [go_sem, *], by simp [go_sem, *], by simpa [World.setCell] using glt⟩
  have HBz := Lib.hid hbsz
  clear hbk hwb d0 d1 d2 g0 g1 g2 BXb O1b O2 G2 hbsz
  obtain ⟨d0, d1, d2, _, _, _, _⟩ := BXc
  have Ra := Lib.hid (row_gr O2c.out ((Gr.refl wb).alloc (o := .cells #[.int .i64 fn, .string (fd.extract 0 kn), .int .i64 (kn : Int)] 24)))
  have Na := Lib.hid (fl_new wb ⟨fn, (fd.extract 0 kn), (kn : Int)⟩)
  go_wp2_with (first
    | (at_builtin; refine wpList_append_own _ rfl _ _ 22 rfl w1.heap.size 24 i0 (.agg #[.int .i64 0, .string ⟨#[]⟩, .int .i64 0]) 3 32 Tryz.underlying22 hi0' hz0' hz1' hz2' rfl (by decide) _ _ _ rfl Ra.out ⟨wb.heap.size, 0, none⟩ 1 1 ([(⟨fn, (fd.extract 0 kn), (kn : Int)⟩ : Fl)].flatMap flf) rfl rfl Na.out (flf_one _) (by have := HAl.out; unfold maxLen; omega) (by have := HAl.out; omega) (by have := HBz.out; simp; omega) ?_)
    | fail)
  intro v3 w3 ho3 hgr3 _
  have G3 := Lib.hid (own_gr Ra.out GBb.out.alloc hgr3 (by have := G1.out.size; omega))
  have O1d := Lib.hid (row_keep (row_gr O1c.out ((Gr.refl wb).alloc (o := .cells #[.int .i64 fn, .string (fd.extract 0 kn), .int .i64 (kn : Int)] 24))) (fun j hj => hgr3.block j (by have := (O1c.out.lt j hj).2; simp; omega) (fun e => by have h7 := (O2c.out.lt j e.symm).1; have h8 := HJ.out j hj; omega)))
  have hs3' := hgr3.size
  rw [show (wb.alloc (.cells #[.int .i64 fn, .string (fd.extract 0 kn), .int .i64 (kn : Int)] 24)).heap.size = wb.heap.size + 1 by simp, HBz.out] at hs3'
  have O3 := Lib.hid ho3
  obtain ⟨a3, k3, rfl⟩ := own_slice ho3
  clear ho3 hgr3 Ra Na O1c O2c d0 d1 d2
  obtain ⟨_, _, he1, _, _, hr1, _, hn1⟩ := own_row O1d.out
  cases he1
  have R1 := Lib.hid hr1
  clear hr1
  have c4e := G3.out.keep c4
  go_wp2_with (first
    | (at_builtin; refine wpList_append_row rfl _ _ 22 rfl w1.heap.size 24 i0 (.agg #[.int .i64 0, .string ⟨#[]⟩, .int .i64 0]) 3 32 Tryz.underlying22 hi0' hz0' hz1' hz2' rfl (by decide) _ _ _ rfl O3.out flf_len B a1 k1 rfl hn1 R1.out (flf_one _) (by have := HAl.out; have := HBl.out; unfold maxLen; omega) (by have := HAl.out; have := HBl.out; omega) (by omega) ?_)
    | fail)
  intro v4 w4 ho4 hgr4 _
  have G4 := Lib.hid (own_gr O3.out G3.out hgr4 (by have := G1.out.size; omega))
  have hM : w4.ownsRow w1.heap.size 24 3 v4 (A ++ [(⟨fn, (fd.extract 0 kn), (kn : Int)⟩ : Fl)] ++ B).length ((A ++ [(⟨fn, (fd.extract 0 kn), (kn : Int)⟩ : Fl)] ++ B).flatMap flf) := by
    rw [List.flatMap_append, List.flatMap_append, List.length_append, List.length_append]
    simpa using ho4
  obtain ⟨a4, k4, rfl, hc1, hc2, hrow4, hb4, _⟩ := own_row hM
  have HXf := Lib.hid ((HX.out.gr G4.out).setFiles (L := (A ++ [(⟨fn, (fd.extract 0 kn), (kn : Int)⟩ : Fl)] ++ B)) hrow4 (fun p e => ⟨by have := hb4 p e; have := G1.out.size; omega, fun hx => by have := hb4 p e; have := HX.out.xl _ hx; have := G1.out.size; omega⟩) hc1 hc2 HOk.out)
  have HTf := Lib.hid ((HT.out.trans (Tr.gr G4.out)).trans (Tr.set w4 r 4 (.slice a4 (A ++ [(⟨fn, (fd.extract 0 kn), (kn : Int)⟩ : Fl)] ++ B).length k4)))
  have c4f := G4.out.keep c4
  have f4f := G4.out.keepF hrl f4
  clear ho4 hgr4 hM hrow4 hb4 c4e
  generalize (A ++ [(⟨fn, (fd.extract 0 kn), (kn : Int)⟩ : Fl)] ++ B).length = lm at *
  go_wp2
  go_ret
  exact ⟨rfl, by (rw [← HAe.out, ← HBe.out, HFs.out]; exact ⟨_, _, _, _, HXf.out⟩), HTf.out⟩
set_option maxHeartbeats 16000000 in
set_option maxRecDepth 100000 in
theorem rstep_l3 (h : RAt X w r fa fc ka kc s) (n : Int) (hd : s.dead = false) (hh : Dk.has s.L n = true) (hls : lasB s = true) :
    Calls Tryz.prog 38 #[ptr r, .int .i64 3, .int .i64 n, .int .i64 0] w fun e w' => e = .returned (.int .i64 (Dk.stpE s 3 n 0)) ∧ Rf X w' r (Dk.stpS s 3 n 0) ∧ Tr w w' r := by
  have hk2 : ¬ ((3 : Int) = 2 ∧ ((0 : Int) < 1 ∨ ((Dk.get s.L n).d.size : Int) < 0)) := by omega
  rw [(stp_go hd hh hk2).1, (stp_go hd hh hk2).2]
  have c1 := h.gn
  have c4 := h.fl
  rw [hd] at c1
  have HA := Lib.hid (rat_any h n)
  unfold ixE at HA
  rw [hh] at HA
  have HLs := Lib.hid (rlast_any h)
  rw [hls] at HLs
  obtain ⟨hl, e1, e2⟩ := ix_at hh
  obtain ⟨x, off, hade, hxb, b0, b1, b2⟩ := fl_at h.row (ix s.L n) hl
  rw [e1] at b0 b1 b2
  have hl8 := h.ok.len
  have hi0 : decide ((ix s.L n : Int) < 0) = false := decide_eq_false (by omega)
  have hE := (cnt_yes hls).1
  have hS : Dk.chS s (Dk.fst (Dk.get s.L n) (Dk.siz 3 (Dk.get s.L n) 0)) = Dk.fall (lasS s) s.keep := by unfold Dk.chS; rw [hE, if_neg (by omega)]; exact (cnt_yes hls).2
  rw [hE, hS]
  have HFl : Hid (∀ wl, RAt X wl r fa fc ka kc (lasS s) → Calls Tryz.prog 68 #[ptr r, .slice ka s.keep.length kc] wl fun e w' => e = .returned (.tuple #[]) ∧ Rf X w' r (Dk.fall (lasS s) s.keep) ∧ Tr wl w' r) := fun wl hx => by
    have hkl : (lasS s).keep = s.keep := by unfold lasS; split <;> rfl
    have := rfall_any hx hx.krow
    rw [hkl] at this
    exact this
  have HKp : Hid (∀ wl, RAt X wl r fa fc ka kc (lasS s) → wl.cell? ⟨r, 3, none⟩ = some (.slice ka s.keep.length kc)) := fun wl hx => by
    have hkl : (lasS s).keep = s.keep := by unfold lasS; split <;> rfl
    have := hx.kp
    rw [hkl] at this
    exact this
  subst hade
  clear h e1 e2 hE hS hls
  generalize Dk.get s.L n = f at *
  generalize ix s.L n = i at *
  obtain ⟨fn, fd, fy⟩ := f
  try simp only at *
  go_enter Tryz.func38, Tryz.ntmps38
  go_wp2_with (go_at_call 66; refine HA.out.mono ?_; rintro e w' ⟨rfl, hw⟩; obtain rfl := hw.symm; clear hw)
  refine HLs.out.mono ?_
  rintro e wl ⟨rfl, hx, ht⟩
  have ck := HKp.out _ hx
  have HX := Lib.hid hx
  have HT := Lib.hid ht
  clear hx ht HLs c1 c4 b0 b1 b2
  go_wp2_with fail
  refine (HFl.out _ HX.out).mono ?_
  rintro e wm ⟨rfl, hr, ht⟩
  have HR := Lib.hid hr
  have HT2 := Lib.hid (HT.out.trans ht)
  clear hr ht
  go_wp2
  go_ret
  exact ⟨rfl, HR.out, HT2.out⟩
set_option maxHeartbeats 16000000 in
set_option maxRecDepth 100000 in
theorem rstep_g3 (h : RAt X w r fa fc ka kc s) (n : Int) (hd : s.dead = false) (hh : Dk.has s.L n = true) (hls : lasB s = false) :
    Calls Tryz.prog 38 #[ptr r, .int .i64 3, .int .i64 n, .int .i64 0] w fun e w' => e = .returned (.int .i64 (Dk.stpE s 3 n 0)) ∧ Rf X w' r (Dk.stpS s 3 n 0) ∧ Tr w w' r := by
  have hk2 : ¬ ((3 : Int) = 2 ∧ ((0 : Int) < 1 ∨ ((Dk.get s.L n).d.size : Int) < 0)) := by omega
  rw [(stp_go hd hh hk2).1, (stp_go hd hh hk2).2]
  have c1 := h.gn
  have c4 := h.fl
  rw [hd] at c1
  have HA := Lib.hid (rat_any h n)
  unfold ixE at HA
  rw [hh] at HA
  have HLs := Lib.hid (rlast_any h)
  rw [hls] at HLs
  obtain ⟨hl, e1, e2⟩ := ix_at hh
  obtain ⟨x, off, hade, hxb, b0, b1, b2⟩ := fl_at h.row (ix s.L n) hl
  rw [e1] at b0 b1 b2
  have hl8 := h.ok.len
  have hi0 : decide ((ix s.L n : Int) < 0) = false := decide_eq_false (by omega)
  have hE := (cnt_no h.ok hls).1
  obtain ⟨hg1, hg2⟩ := Dk.get_mem hh
  have hfo := h.ok.fo _ hg1
  have hsd := hfo.d1
  obtain ⟨hz0, hz1⟩ := Dk.siz_in hk2
  have hkL : (Dk.cntS s).L = s.L := Dk.cnt_L hE
  have hS : Dk.chS s (Dk.fst (Dk.get s.L n) (Dk.siz 3 (Dk.get s.L n) 0)) = { lasS s with L := s.L.take (ix s.L n) ++ [] ++ s.L.drop (ix s.L n + 1) } := by
    unfold Dk.chS
    rw [if_pos hE, (cnt_no h.ok hls).2, put_at h.ok.up hh hfo hz0 hz1]
    rw [show Dk.siz 3 (Dk.get s.L n) 0 = 0 by simp [Dk.siz]]
    rw [if_pos rfl]
  have hokS := h.ok.ch hg1 hz0 hz1
  rw [hS] at hokS
  rw [hE, hS]
  have HOk := Lib.hid hokS
  have HL : Hid ((lasS s).L = s.L) := by show _ = _; unfold lasS; split <;> rfl
  have hfc := h.cap
  have hfcm := h.capm
  have hfan : fa ≠ none := by rw [hade]; simp
  obtain ⟨A, hA⟩ : ∃ A, A = s.L.take (ix s.L n) := ⟨_, rfl⟩
  obtain ⟨B, hB⟩ : ∃ B, B = s.L.drop (ix s.L n + 1) := ⟨_, rfl⟩
  have hAl : A.length = ix s.L n := by rw [hA, List.length_take]; omega
  have hBl : B.length = s.L.length - (ix s.L n + 1) := by rw [hB, List.length_drop]
  have HRA : Hid (∀ W, RowAt flf W fa s.L → RowAt flf W fa A) := fun W hr => by rw [hA]; exact row_take flf_len hr _ (by omega)
  have HRB : Hid (∀ W, RowAt flf W fa s.L → RowAt flf W (highAd fa fc (ix s.L n + 1)) B) := fun W hr => by rw [hB]; exact row_high hr fc _ hfc
  have hlow : ∀ W, (Instr.sliceAt 22 (.slice fa s.L.length fc) none (some (.int .i64 (ix s.L n : Int))) none).run Tryz.prog W = .ok (.slice fa A.length fc) W := fun W => by rw [hAl]; exact slice_low fa s.L.length fc (ix s.L n) (by omega) hfc W
  have hhigh : ∀ W, (Instr.sliceAt 22 (.slice fa s.L.length fc) (some (.int .i64 ((ix s.L n : Int) + 1))) none none).run Tryz.prog W = .ok (.slice (highAd fa fc (ix s.L n + 1)) B.length (fc - (ix s.L n + 1))) W := fun W => by rw [hBl]; exact slice_high fa s.L.length fc (ix s.L n + 1) (by omega) W
  rw [← hA, ← hB] at HOk
  have HAe := Lib.hid hA
  have HBe := Lib.hid hB
  have hhn := highAd_some (cap := fc) (c := ix s.L n + 1) hfan
  obtain ⟨i0, hi0', hz0', hz1', hz2'⟩ := info_parts infoF
  have HAl := Lib.hid hAl
  have HBl := Lib.hid hBl
  have E1 := Lib.hid e1
  clear h hE hS hls e1 hfo hg1 hg2 hokS hz0 hz1 hkL hA hB hAl hBl
  generalize Dk.get s.L n = f at *
  generalize ix s.L n = i at *
  obtain ⟨fn, fd, fy⟩ := f
  try simp only at *
  subst hade
  generalize hhA : highAd (some ⟨x, off, none⟩) fc (i + 1) = ha at *
  go_enter Tryz.func38, Tryz.ntmps38
  go_wp2_with (go_at_call 66; refine HA.out.mono ?_; rintro e w' ⟨rfl, hw⟩; obtain rfl := hw.symm; clear hw)
  refine HLs.out.mono ?_
  rintro e wl ⟨rfl, hx, ht⟩
  have c4 := hx.fl
  rw [HL.out] at c4
  have f4 := hx.fz 4 (by omega)
  have hrl := hx.lt
  have HX := Lib.hid hx
  have HT := Lib.hid ht
  have hrow := hx.row
  rw [HL.out] at hrow
  obtain ⟨x', off', hade', hxb', b0', b1', b2'⟩ := fl_at hrow i hl
  cases hade'
  rw [E1.out] at b0' b1' b2'
  have HRw := Lib.hid hrow
  have hsz := HT.out.size
  clear hx ht HLs c1 b0 b1 b2 hrow
  have BX0 := BoxAt.new wl (.int .i64 fn) (.string fd) (.int .i64 fy) 24 _ rfl
  have c4a := ((Gr.refl wl).alloc (o := .cells #[.int .i64 fn, .string fd, .int .i64 fy] 24)).keep c4
  have c4b := (((Gr.refl wl).alloc (o := .cells #[.int .i64 fn, .string fd, .int .i64 fy] 24)).alloc (o := .cells #[] 24)).keep c4
  have hs2 : ((wl.alloc (.cells #[.int .i64 fn, .string fd, .int .i64 fy] 24)).alloc (.cells #[] 24)).heap.size = wl.heap.size + 1 + 1 := by simp
  have Lit1 := Lib.hid (own_lit0 (wl.alloc (.cells #[.int .i64 fn, .string fd, .int .i64 fy] 24)) (wl.heap.size + 1) 24 (wl.heap.size + 1) (by simp) (by simp))
  have RB2 := Lib.hid (HRB.out _ (HRw.out.gr (((Gr.refl wl).alloc (o := .cells #[.int .i64 fn, .string fd, .int .i64 fy] 24)).alloc (o := .cells #[] 24))))
  have BX2 := Lib.hid (BX0.gr ((Gr.refl _).alloc (o := .cells #[] 24)))
  go_wp2_with (first
    | (at_builtin; refine wpList_append_row rfl _ _ 22 rfl (wl.heap.size + 1) 24 i0 (.agg #[.int .i64 0, .string ⟨#[]⟩, .int .i64 0]) 3 32 Tryz.underlying22 hi0' hz0' hz1' hz2' rfl (by decide) _ 0 [] rfl Lit1.out flf_len B ha (fc - (i + 1)) rfl (fun e => absurd e hhn) RB2.out (flf_one _) (by have := HBl.out; unfold maxLen; omega) (by have := HBl.out; omega) (by omega) ?_)
    | fail)
  intro v1 w1 ho1 hgr1 _
  try simp only [Nat.zero_add, List.nil_append] at ho1
  have G1 := Lib.hid (own_gr Lit1.out ((Gr.refl wl).alloc.alloc) hgr1 (by omega))
  have BX1 := Lib.hid (BX2.out.keepB (hgr1.block wl.heap.size BX2.out.lt (fun e => by simp [Value.ownBlock] at e)) hgr1.size)
  have hs1 := hgr1.size
  have O1 := Lib.hid ho1
  obtain ⟨a1, k1, rfl⟩ := own_slice ho1
  clear ho1 hgr1 Lit1 RB2 BX2 BX0 c4a c4b b0' b1' b2'
  have c4c := G1.out.keep c4
  have c4d := (G1.out.alloc (o := .cells #[] 24)).keep c4
  have Lit2 := Lib.hid (own_lit0 w1 w1.heap.size 24 w1.heap.size rfl (Nat.le_refl _))
  have RA3 := Lib.hid (HRA.out _ (HRw.out.gr (G1.out.alloc (o := .cells #[] 24))))
  go_wp2_with (first
    | (at_builtin; refine wpList_append_row rfl _ _ 22 rfl w1.heap.size 24 i0 (.agg #[.int .i64 0, .string ⟨#[]⟩, .int .i64 0]) 3 32 Tryz.underlying22 hi0' hz0' hz1' hz2' rfl (by decide) _ 0 [] rfl Lit2.out flf_len A (some ⟨x, off, none⟩) fc rfl (fun e => by cases e) RA3.out (flf_one _) (by have := HAl.out; unfold maxLen; omega) (by have := HAl.out; omega) (by simp) ?_)
    | fail)
  intro v2 w2 ho2 hgr2 _
  try simp only [Nat.zero_add, List.nil_append] at ho2
  have G2 := Lib.hid (own_gr Lit2.out G1.out.alloc hgr2 (by omega))
  have hs3 := hgr2.size
  simp at hs3
  have HJ : Hid (∀ j, (Value.slice a1 B.length k1).ownBlock = some j → j < w1.heap.size) := fun j hj => (O1.out.lt j hj).2
  have O1b := Lib.hid (row_keep (row_gr O1.out ((Gr.refl w1).alloc (o := .cells #[] 24))) (fun j hj => hgr2.block j (by have := (O1.out.lt j hj).2; simp; omega) (fun e => by have := (O1.out.lt j hj).2; simp [Value.ownBlock] at e; omega)))
  have BXb := Lib.hid ((BX1.out.gr ((Gr.refl w1).alloc (o := .cells #[] 24))).keepB (hgr2.block wl.heap.size (by have := BX1.out.lt; simp; omega) (fun e => by have := BX1.out.lt; simp [Value.ownBlock] at e; omega)) hgr2.size)
  have O2 := Lib.hid ho2
  obtain ⟨a2, k2, rfl⟩ := own_slice ho2
  clear ho2 hgr2 Lit2 RA3 O1 BX1 c4c c4d
  obtain ⟨d0, d1, d2, g0, g1, g2, glt⟩ := BXb.out
  go_upto_region 17 with fail
  obtain ⟨wb, hwb⟩ : ∃ wb, wb = w2.setCell ⟨wl.heap.size, 2, none⟩ (.int .i64 (fd.size : Int)) := ⟨_, rfl⟩
  rw [← hwb]
  have GBb : Hid (Gr wl wb) := by show Gr wl wb; rw [hwb]; exact G2.out.set _ (Nat.le_refl _) _
  have hbsz : wb.heap.size = w2.heap.size := by rw [hwb]; simp [World.setCell]
  have hbk : ∀ j, j ≠ wl.heap.size → wb.heap[j]? = w2.heap[j]? := fun j hj => by rw [hwb]; exact Below.heap_setCell _ _ _ j hj
  have O1c := Lib.hid (row_keep O1b.out (fun j hj => hbk j (by have := (O1b.out.lt j hj).1; omega)))
  have O2c := Lib.hid (row_keep O2.out (fun j hj => hbk j (by have := (O2.out.lt j hj).1; omega)))
  have BXc : BoxAt wb wl.heap.size (.int .i64 fn) (.string fd) (.int .i64 (fd.size : Int)) := by
    rw [hwb]
    exact ⟨by simp [go_sem, *], by simp [go_sem, *], by simp [go_sem, *], by simp [go_sem, *], by simp [go_sem, *], by simp [go_sem, *], by simpa [World.setCell] using glt⟩
  have HBz := Lib.hid hbsz
  clear hbk hwb d0 d1 d2 g0 g1 g2 BXb O1b O2 G2 hbsz
  have O1d := O1c
  have O3 := O2c
  have G3 := GBb
  have hs3' := Nat.le_of_eq HBz.out.symm
  clear BXc
  obtain ⟨_, _, he1, _, _, hr1, _, hn1⟩ := own_row O1d.out
  cases he1
  have R1 := Lib.hid hr1
  clear hr1
  have c4e := G3.out.keep c4
  go_wp2_with (first
    | (at_builtin; refine wpList_append_row rfl _ _ 22 rfl w1.heap.size 24 i0 (.agg #[.int .i64 0, .string ⟨#[]⟩, .int .i64 0]) 3 32 Tryz.underlying22 hi0' hz0' hz1' hz2' rfl (by decide) _ _ _ rfl O3.out flf_len B a1 k1 rfl hn1 R1.out (flf_one _) (by have := HAl.out; have := HBl.out; unfold maxLen; omega) (by have := HAl.out; have := HBl.out; omega) (by omega) ?_)
    | fail)
  intro v4 w4 ho4 hgr4 _
  have G4 := Lib.hid (own_gr O3.out G3.out hgr4 (by have := G1.out.size; omega))
  have hM : w4.ownsRow w1.heap.size 24 3 v4 (A ++ [] ++ B).length ((A ++ [] ++ B).flatMap flf) := by
    rw [List.flatMap_append, List.flatMap_append, List.length_append, List.length_append]
    simpa using ho4
  obtain ⟨a4, k4, rfl, hc1, hc2, hrow4, hb4, _⟩ := own_row hM
  have HXf := Lib.hid ((HX.out.gr G4.out).setFiles (L := (A ++ [] ++ B)) hrow4 (fun p e => ⟨by have := hb4 p e; have := G1.out.size; omega, fun hx => by have := hb4 p e; have := HX.out.xl _ hx; have := G1.out.size; omega⟩) hc1 hc2 HOk.out)
  have HTf := Lib.hid ((HT.out.trans (Tr.gr G4.out)).trans (Tr.set w4 r 4 (.slice a4 (A ++ [] ++ B).length k4)))
  have c4f := G4.out.keep c4
  have f4f := G4.out.keepF hrl f4
  clear ho4 hgr4 hM hrow4 hb4 c4e
  generalize (A ++ [] ++ B).length = lm at *
  go_wp2
  go_ret
  exact ⟨rfl, by (rw [← HAe.out, ← HBe.out]; exact ⟨_, _, _, _, HXf.out⟩), HTf.out⟩
theorem rstep1_any (h : RAt X w r fa fc ka kc s) (n : Int) :
    Calls Tryz.prog 38 #[ptr r, .int .i64 1, .int .i64 n, .int .i64 0] w fun e w' => e = .returned (.int .i64 (Dk.stpE s 1 n 0)) ∧ Rf X w' r (Dk.stpS s 1 n 0) ∧ Tr w w' r := by
  cases hd : s.dead with
  | true => exact rstep_dead h 1 n 0 hd
  | false =>
    cases hh : Dk.has s.L n with
    | false => exact rstep_no h 1 n 0 hd hh
    | true =>
      cases hl : lasB s with
      | true => exact rstep_l1 h n hd hh hl
      | false => exact rstep_g1 h n hd hh hl
theorem rstep2_any (h : RAt X w r fa fc ka kc s) (n : Int) (k : Int) :
    Calls Tryz.prog 38 #[ptr r, .int .i64 2, .int .i64 n, .int .i64 k] w fun e w' => e = .returned (.int .i64 (Dk.stpE s 2 n k)) ∧ Rf X w' r (Dk.stpS s 2 n k) ∧ Tr w w' r := by
  cases hd : s.dead with
  | true => exact rstep_dead h 2 n k hd
  | false =>
    cases hh : Dk.has s.L n with
    | false => exact rstep_no h 2 n k hd hh
    | true =>
      by_cases hk : k < 1 ∨ ((Dk.get s.L n).d.size : Int) < k
      · exact rstep_bad h n k hd hh hk
      · cases hl : lasB s with
        | true => exact rstep_l2 h n k hd hh hk hl
        | false => exact rstep_g2 h n k hd hh hk hl
theorem rstep3_any (h : RAt X w r fa fc ka kc s) (n : Int) :
    Calls Tryz.prog 38 #[ptr r, .int .i64 3, .int .i64 n, .int .i64 0] w fun e w' => e = .returned (.int .i64 (Dk.stpE s 3 n 0)) ∧ Rf X w' r (Dk.stpS s 3 n 0) ∧ Tr w w' r := by
  cases hd : s.dead with
  | true => exact rstep_dead h 3 n 0 hd
  | false =>
    cases hh : Dk.has s.L n with
    | false => exact rstep_no h 3 n 0 hd hh
    | true =>
      cases hl : lasB s with
      | true => exact rstep_l3 h n hd hh hl
      | false => exact rstep_g3 h n hd hh hl
end Go.Proofs.YtojmhhmpmpbpfaaGreatDoor
