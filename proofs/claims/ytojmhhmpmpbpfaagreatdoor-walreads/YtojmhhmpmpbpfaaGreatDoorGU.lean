/- Parts of these proofs, laid together. -/
import Derived.Test.YtojmhhmpmpbpfaaGreatDoorGT
import Derived.BigRegion
namespace Go.Proofs.YtojmhhmpmpbpfaaGreatDoor
open Go.RowKit Go.Maps
open Dk (Fl Fo St Ok)
variable {a w w' w2 : World} {b m f g : Nat} {A : Nat → Int} {s : St} {n z : Int} {l : Wl.Lg}

/- a log that no call made -/
def NoL (w : World) (v : Value) : Prop := v = nilP ∨ ∃ g, v = ptr g ∧ w.cell? ⟨g, 0, none⟩ = some nilP
theorem NoL.gr {v : Value} (h : NoL w v) (k : Gr w w') : NoL w' v := by
  rcases h with h | ⟨g, h, c⟩
  · exact Or.inl h
  · exact Or.inr ⟨g, h, k.keep c⟩
set_option maxHeartbeats 4000000 in
set_option maxRecDepth 100000 in
theorem lisNone_any (h : LgAt w g b l) : Calls Tryz.prog 50 #[ptr g] w fun e w' => e = .returned (.bool false) ∧ w' = w := by
  have c0 := h.c0
  clear h
  go_enter Tryz.func50, Tryz.ntmps50
  go_wp2
  go_ret
  exact ⟨rfl, rfl⟩
set_option maxHeartbeats 4000000 in
set_option maxRecDepth 100000 in
theorem lnoNone (v : Value) (h : NoL w v) : Calls Tryz.prog 50 #[v] w fun e w' => e = .returned (.bool true) ∧ w' = w := by
  rcases h with rfl | ⟨g, rfl, c0⟩
  · go_enter Tryz.func50, Tryz.ntmps50
    go_wp2
    go_ret
    exact ⟨rfl, rfl⟩
  · go_enter Tryz.func50, Tryz.ntmps50
    go_wp2
    go_ret
    exact ⟨rfl, rfl⟩
set_option maxHeartbeats 4000000 in
set_option maxRecDepth 100000 in
theorem ready_any (h : LgAt w g b l) : Calls Tryz.prog 43 #[ptr g] w fun e w' => e = .returned (.int .i64 (if l.br then 150 else 0)) ∧ w' = w := by
  have HN := Lib.hid (lisNone_any h)
  have c2 := h.c2
  clear h
  cases hb : l.br with
  | true =>
    rw [hb] at c2
    go_enter Tryz.func43, Tryz.ntmps43
    go_wp2_with (go_at_call 50; refine HN.out.mono ?_; rintro e w' ⟨rfl, hw⟩; obtain rfl := hw.symm; clear hw)
    go_ret
    exact ⟨rfl, rfl⟩
  | false =>
    rw [hb] at c2
    go_enter Tryz.func43, Tryz.ntmps43
    go_wp2_with (go_at_call 50; refine HN.out.mono ?_; rintro e w' ⟨rfl, hw⟩; obtain rfl := hw.symm; clear hw)
    go_ret
    exact ⟨rfl, rfl⟩
set_option maxHeartbeats 4000000 in
set_option maxRecDepth 100000 in
theorem noReady (v : Value) (h : NoL w v) : Calls Tryz.prog 43 #[v] w fun e w' => e = .returned (.int .i64 1) ∧ w' = w := by
  have HN := Lib.hid (lnoNone v h)
  clear h
  go_enter Tryz.func43, Tryz.ntmps43
  go_wp2_with (go_at_call 50; refine HN.out.mono ?_; rintro e w' ⟨rfl, hw⟩; obtain rfl := hw.symm; clear hw)
  go_ret
  exact ⟨rfl, rfl⟩
set_option maxHeartbeats 4000000 in
set_option maxRecDepth 100000 in
theorem answer_any (h : LgAt w g b l) (e : Int) : Calls Tryz.prog 45 #[ptr g, .int .i64 e] w fun r w' => r = .returned (.int .i64 e) ∧ LgAt w' g b (Wl.tol l e) ∧ (w' = w ∨ w' = w.setCell ⟨g, 2, none⟩ (.bool true)) := by
  have c2 := h.c2
  have f2 := h.f2
  unfold Wl.tol
  by_cases e1 : e = 150
  · subst e1
    rw [if_pos rfl]
    have HL := Lib.hid (h.s2 (.bool true))
    clear h
    go_enter Tryz.func45, Tryz.ntmps45
    go_wp2
    go_ret
    exact ⟨rfl, HL.out, Or.inr rfl⟩
  · rw [if_neg e1]
    have e1b : (e == 150) = false := by simpa using e1
    have HL := Lib.hid h
    clear h
    go_enter Tryz.func45, Tryz.ntmps45
    go_wp2
    go_ret
    exact ⟨rfl, HL.out, Or.inl rfl⟩
set_option maxHeartbeats 4000000 in
set_option maxRecDepth 100000 in
theorem lnumber_any (h : LgAt w g b l) : Calls Tryz.prog 23 #[ptr g] w fun e w' => e = .returned (.int .i64 l.n) ∧ w' = w := by
  have HN := Lib.hid (lisNone_any h)
  have c1 := h.c1
  clear h
  go_enter Tryz.func23, Tryz.ntmps23
  go_wp2_with (go_at_call 50; refine HN.out.mono ?_; rintro e w' ⟨rfl, hw⟩; obtain rfl := hw.symm; clear hw)
  go_ret
  exact ⟨rfl, rfl⟩
set_option maxHeartbeats 4000000 in
set_option maxRecDepth 100000 in
theorem lsize_any (hd : DAt w b m A s) (h : LgAt w g b l) : Calls Tryz.prog 24 #[ptr g] w fun e w' => e = .returned (.int .i64 ((Dk.get s.L l.n).d.size : Int)) ∧ Gr w w' := by
  have HN := Lib.hid (lisNone_any h)
  have HZ := Lib.hid (fsize_any hd h.fa)
  clear h hd
  go_enter Tryz.func24, Tryz.ntmps24
  go_wp2_with (go_at_call 50; refine HN.out.mono ?_; rintro e w' ⟨rfl, hw⟩; obtain rfl := hw.symm; clear hw)
  refine HZ.out.mono ?_
  rintro e w2 ⟨rfl, hg2⟩
  have HG2 := Lib.hid hg2
  clear hg2
  go_wp2
  go_ret
  exact ⟨rfl, HG2.out⟩
set_option maxHeartbeats 4000000 in
set_option maxRecDepth 100000 in
theorem noNumber (v : Value) (h : NoL w v) : Calls Tryz.prog 23 #[v] w fun e w' => e = .returned (.int .i64 0) ∧ w' = w := by
  have HN := Lib.hid (lnoNone v h)
  clear h
  go_enter Tryz.func23, Tryz.ntmps23
  go_wp2_with (go_at_call 50; refine HN.out.mono ?_; rintro e w' ⟨rfl, hw⟩; obtain rfl := hw.symm; clear hw)
  go_ret
  exact ⟨rfl, rfl⟩
set_option maxHeartbeats 4000000 in
set_option maxRecDepth 100000 in
theorem noSize (v : Value) (h : NoL w v) : Calls Tryz.prog 24 #[v] w fun e w' => e = .returned (.int .i64 0) ∧ w' = w := by
  have HN := Lib.hid (lnoNone v h)
  clear h
  go_enter Tryz.func24, Tryz.ntmps24
  go_wp2_with (go_at_call 50; refine HN.out.mono ?_; rintro e w' ⟨rfl, hw⟩; obtain rfl := hw.symm; clear hw)
  go_ret
  exact ⟨rfl, rfl⟩
set_option maxHeartbeats 4000000 in
set_option maxRecDepth 100000 in
theorem noLAppend (v : Value) (h : NoL w v) (d : ByteArray) : Calls Tryz.prog 18 #[v, .string d] w fun e w' => e = .returned (.int .i64 1) ∧ w' = w := by
  have HN := Lib.hid (noReady v h)
  clear h
  go_enter Tryz.func18, Tryz.ntmps18
  go_wp2_with (go_at_call 43; refine HN.out.mono ?_; rintro e w' ⟨rfl, hw⟩; obtain rfl := hw.symm; clear hw)
  go_ret
  exact ⟨rfl, rfl⟩
set_option maxHeartbeats 4000000 in
set_option maxRecDepth 100000 in
theorem noLTurn (v : Value) (h : NoL w v) (d : ByteArray) : Calls Tryz.prog 20 #[v, .string d] w fun e w' => e = .returned (.int .i64 1) ∧ w' = w := by
  have HN := Lib.hid (noReady v h)
  clear h
  go_enter Tryz.func20, Tryz.ntmps20
  go_wp2_with (go_at_call 43; refine HN.out.mono ?_; rintro e w' ⟨rfl, hw⟩; obtain rfl := hw.symm; clear hw)
  go_ret
  exact ⟨rfl, rfl⟩
/- what a call on a log leaves -/
def LlR (w w' : World) (b m g : Nat) (s : St) (l : Wl.Lg) : Prop := (∃ A, DAt w' b m A s) ∧ LgAt w' g b l ∧ T3 w w' b m g
theorem answer_ll {u : World} (k : LlR u w b m g s l) (e : Int) : Calls Tryz.prog 45 #[ptr g, .int .i64 e] w fun r w' => r = .returned (.int .i64 e) ∧ LlR u w' b m g s (Wl.tol l e) := by
  obtain ⟨⟨A2, k1⟩, k2, k3⟩ := k
  refine (answer_any k2 e).mono ?_
  rintro r w' ⟨rfl, r2, rfl | rfl⟩
  · exact ⟨rfl, ⟨A2, k1⟩, r2, k3⟩
  · have hne := k2.ne k1
    exact ⟨rfl, ⟨A2, k1.keep (Below.heap_setCell w _ _ b (fun e => hne.1 e.symm)) (Below.heap_setCell w _ _ m (fun e => hne.2 e.symm))⟩, r2, k3.trans (T3.set _ _ _ _ _ _)⟩
theorem LlR.up {u : World} (k : LlR u w b m g s l) (h : Gr w w') : LlR u w' b m g s l := by
  obtain ⟨⟨A2, k1⟩, k2, k3⟩ := k
  exact ⟨⟨A2, k1.gr h⟩, k2.gr h, k3.trans (T3.gr h b m g)⟩
end Go.Proofs.YtojmhhmpmpbpfaaGreatDoor
namespace Go.Proofs.YtojmhhmpmpbpfaaGreatDoor
open Go.RowKit Go.Maps
open Dk (Fl Fo St Ok)
variable {a w w' w2 : World} {b m f g : Nat} {A : Nat → Int} {s : St} {n z : Int} {l : Wl.Lg}

theorem next_yes {d : ByteArray} (h : d.size ≤ 30000) : (⟨(Sg.next [d]).1.toArray⟩ : ByteArray) = Wl.fr d ∧ (Sg.next [d]).2 = 0 := by
  have hf : Sg.fit [d] = true := by simp [Sg.fit, h]
  unfold Sg.next
  rw [if_pos hf]
  refine ⟨?_, rfl⟩
  simp only [Sg.frs, List.flatMap_cons, List.flatMap_nil, List.append_nil]
  exact (seal_yes h).1
theorem next_no {d : ByteArray} (h : ¬ d.size ≤ 30000) : (Sg.next [d]).2 = 3 := by
  have hf : ¬ Sg.fit [d] = true := by simp [Sg.fit]; omega
  unfold Sg.next
  rw [if_neg hf]
/- the log behind an Append -/
def apq (s : St) (l : Wl.Lg) (d : ByteArray) : Wl.Lg := if (Wl.apn s l d).1 = 0 then (Wl.apn s l d).2.2 else Wl.tol l (Wl.apn s l d).1
theorem apn_lay {d : ByteArray} (hb : l.br = false) (hd : d.size ≤ 30000) : (Wl.apn s l d).1 = layE s l.n (Wl.fr d) ∧ (Wl.apn s l d).2.1 = layS s l.n (Wl.fr d) ∧
    apq s l d = Wl.tol ⟨l.n, if layE s l.n (Wl.fr d) = 0 then l.z + (Wl.fr d).size else l.z, l.br⟩ (layE s l.n (Wl.fr d)) := by
  have hbn : ¬ l.br = true := by rw [hb]; decide
  unfold apq Wl.apn layE layS
  rw [if_neg hbn, if_pos hd]
  by_cases h1 : Dk.appE s l.n (Wl.fr d) = 0
  · simp only [if_pos h1]
    refine ⟨trivial, trivial, ?_⟩
    by_cases h2 : Dk.stpE (Dk.appS s l.n (Wl.fr d)) 1 l.n 0 = 0
    · simp only [if_pos h2]
    · simp only [if_neg h2]
  · simp only [if_neg h1]
    exact ⟨trivial, trivial, trivial⟩
theorem apn_big {d : ByteArray} (hb : l.br = false) (hd : ¬ d.size ≤ 30000) : Wl.apn s l d = (3, s, l) ∧ apq s l d = l := by
  have hbn : ¬ l.br = true := by rw [hb]; decide
  have h1 : Wl.apn s l d = (3, s, l) := by unfold Wl.apn; rw [if_neg hbn, if_neg hd]
  refine ⟨h1, ?_⟩
  unfold apq
  rw [h1]
  rfl
theorem apn_br {d : ByteArray} (hb : l.br = true) : Wl.apn s l d = (150, s, l) ∧ apq s l d = l := by
  have h1 : Wl.apn s l d = (150, s, l) := by unfold Wl.apn; rw [if_pos hb]
  refine ⟨h1, ?_⟩
  unfold apq
  rw [h1]
  obtain ⟨x, y, br⟩ := l
  simp only at hb
  subst hb
  rfl
theorem own_lit1 (w : World) (x : ByteArray) : StrsAt (w.alloc (.cells #[.string x] 9)) (some ⟨w.heap.size, 0, none⟩) [x] := by
  intro j hj
  simp at hj
  subst hj
  exact ⟨w.heap.size, 0, rfl, by simp, by simp⟩
set_option maxHeartbeats 4000000 in
set_option maxRecDepth 100000 in
theorem lappend_any (h : DAt w b m A s) (hl : LgAt w g b l) (hT : Tab w) (d : ByteArray) (h0 : -9223372036854775808 ≤ l.n) (h1 : l.n ≤ 9223372036854775807) (hd : d.size ≤ 9223372036854775807) :
    Calls Tryz.prog 18 #[ptr g, .string d] w fun e w' => e = .returned (.int .i64 (Wl.apn s l d).1) ∧ LlR w w' b m g (Wl.apn s l d).2.1 (apq s l d) := by
  have HR := Lib.hid (ready_any hl)
  cases hb : l.br with
  | true =>
    obtain ⟨q1, q2⟩ := apn_br (s := s) (d := d) hb
    rw [q1, q2]
    have HL : Hid (LlR w w b m g s l) := ⟨⟨A, h⟩, hl, T3.refl _ _ _ _⟩
    rw [hb] at HR
    clear h hl hT q1 q2
    go_enter Tryz.func18, Tryz.ntmps18
    go_wp2_with (go_at_call 43; refine HR.out.mono ?_; rintro e w' ⟨rfl, hw⟩; obtain rfl := hw.symm; clear hw)
    go_ret
    exact ⟨rfl, HL.out⟩
  | false =>
    rw [hb] at HR
    have HN := Lib.hid (next_any [d] (some ⟨w.heap.size, 0, none⟩) 1 (w.alloc (.cells #[.string d] 9)) (hT.gr (Gr.refl w).alloc) (own_lit1 w d) (by simp) (by simpa using hd))
    by_cases hs : d.size ≤ 30000
    · obtain ⟨q1, q2, q3⟩ := apn_lay (s := s) hb hs
      rw [q1, q2, q3]
      rw [(next_yes hs).1, (next_yes hs).2] at HN
      have HY : Hid (∀ w2, Gr w w2 → Calls Tryz.prog 46 #[ptr g, .string (Wl.fr d)] w2 fun e w' => e = .returned (.int .i64 (layE s l.n (Wl.fr d))) ∧ LlR w w' b m g (layS s l.n (Wl.fr d)) ⟨l.n, if layE s l.n (Wl.fr d) = 0 then l.z + (Wl.fr d).size else l.z, l.br⟩) := by
        intro w2 k
        have hk : LgAt w2 g b l := hl.gr k
        refine (lay_any (h.gr k) hk.fa _ h0 h1).mono ?_
        rintro e w' ⟨rfl, r⟩
        exact ⟨rfl, r.1, hk.td (h.gr k) r.2, (T3.gr k b m g).trans (r.2.t3 g)⟩
      have HAn : Hid (∀ w2, LlR w w2 b m g (layS s l.n (Wl.fr d)) ⟨l.n, if layE s l.n (Wl.fr d) = 0 then l.z + (Wl.fr d).size else l.z, l.br⟩ → Calls Tryz.prog 45 #[ptr g, .int .i64 (layE s l.n (Wl.fr d))] w2 fun e w' => e = .returned (.int .i64 (layE s l.n (Wl.fr d))) ∧ LlR w w' b m g (layS s l.n (Wl.fr d)) (Wl.tol ⟨l.n, if layE s l.n (Wl.fr d) = 0 then l.z + (Wl.fr d).size else l.z, l.br⟩ (layE s l.n (Wl.fr d)))) := by
        intro w2 k
        exact answer_ll k _
      clear h hl hT q1 q2 q3
      generalize layE s l.n (Wl.fr d) = eL at *
      generalize layS s l.n (Wl.fr d) = sL at *
      generalize (⟨l.n, if eL = 0 then l.z + (Wl.fr d).size else l.z, l.br⟩ : Wl.Lg) = lN at *
      generalize Wl.fr d = F at *
      go_enter Tryz.func18, Tryz.ntmps18
      go_wp2_with (go_at_call 43; refine HR.out.mono ?_; rintro e w' ⟨rfl, hw⟩; obtain rfl := hw.symm; clear hw)
      refine HN.out.mono ?_
      rintro e w2 ⟨rfl, hg2⟩
      have HG2 := Lib.hid ((Gr.refl w).alloc.trans hg2)
      clear hg2
      go_wp2_with fail
      refine (HY.out _ HG2.out).mono ?_
      rintro e w3 ⟨rfl, hr3⟩
      have HR3 := Lib.hid hr3
      clear hr3
      go_wp2_with fail
      refine (HAn.out _ HR3.out).mono ?_
      rintro e w4 ⟨rfl, hr4⟩
      have HR4 := Lib.hid hr4
      clear hr4
      go_wp2
      go_ret
      exact ⟨rfl, HR4.out⟩
    · obtain ⟨q1, q2⟩ := apn_big (s := s) hb hs
      rw [q1, q2]
      rw [next_no hs] at HN
      have HL : Hid (∀ w', Gr w w' → LlR w w' b m g s l) := fun w' k => ⟨⟨A, h.gr k⟩, hl.gr k, T3.gr k _ _ _⟩
      clear h hl hT q1 q2
      generalize (⟨(Sg.next [d]).1.toArray⟩ : ByteArray) = F at *
      go_enter Tryz.func18, Tryz.ntmps18
      go_wp2_with (go_at_call 43; refine HR.out.mono ?_; rintro e w' ⟨rfl, hw⟩; obtain rfl := hw.symm; clear hw)
      refine HN.out.mono ?_
      rintro e w2 ⟨rfl, hg2⟩
      have HG2 := Lib.hid ((Gr.refl w).alloc.trans hg2)
      clear hg2
      go_wp2
      go_ret
      exact ⟨rfl, HL.out _ HG2.out⟩
end Go.Proofs.YtojmhhmpmpbpfaaGreatDoor
namespace Go.Proofs.YtojmhhmpmpbpfaaGreatDoor
open Go.RowKit Go.Maps
open Dk (Fl Fo St Ok)
variable {a w w' w2 : World} {b m f g x : Nat} {A : Nat → Int} {s : St} {n z : Int} {l : Wl.Lg}

theorem fa_new (w : World) (b : Nat) (n : Int) : Fa (w.alloc (.cells #[ptr b, .int .i64 n] 75)) w.heap.size b n := ⟨by simp, by simp⟩
theorem int_one (w : World) (n : Int) : IntsAt (w.alloc (.cells #[.int .i64 n] 3)) (some ⟨w.heap.size, 0, none⟩) [n] := by
  intro j hj
  simp at hj
  subst hj
  exact ⟨w.heap.size, 0, rfl, by simp, by simp⟩
theorem trn_br {d : ByteArray} (hb : l.br = true) : Wl.trn s l d = (150, s, l) := by unfold Wl.trn; rw [if_pos hb]
theorem trn_top {d : ByteArray} (hb : l.br = false) (hn : l.n = 1000000) : Wl.trn s l d = (151, s, l) := by unfold Wl.trn; rw [if_neg (by rw [hb]; decide), if_pos hn]
theorem trn_no {d : ByteArray} (hb : l.br = false) (hn : ¬ l.n = 1000000) (he : ¬ (Wl.beg s (l.n + 1) d).2.1 = 0) : Wl.trn s l d = ((Wl.beg s (l.n + 1) d).2.1, (Wl.beg s (l.n + 1) d).2.2, Wl.tol l (Wl.beg s (l.n + 1) d).2.1) := by unfold Wl.trn; rw [if_neg (by rw [hb]; decide), if_neg hn, if_neg he]
theorem drp_one (s : St) (x : Int) : (Wl.drp s [x]).1 = Dk.stpE s 3 x 0 ∧ (Wl.drp s [x]).2 = Dk.stpS s 3 x 0 := by
  rw [drp_cons]
  split
  · rename_i h; rw [h]; exact ⟨rfl, rfl⟩
  · exact ⟨rfl, rfl⟩
theorem beg_fr {d : ByteArray} (he : (Wl.beg s n d).2.1 = 0) : (Wl.beg s n d).1 = (Wl.fr d).size := by
  revert he
  unfold Wl.beg
  split
  · split
    · intro _; rfl
    · rename_i h; intro he; exact absurd he h
  · intro he; cases he
theorem trn_yes {d : ByteArray} (hb : l.br = false) (hn : ¬ l.n = 1000000) (he : (Wl.beg s (l.n + 1) d).2.1 = 0) :
    Wl.trn s l d = ((Wl.drp (Wl.beg s (l.n + 1) d).2.2 [l.n]).1, (Wl.drp (Wl.beg s (l.n + 1) d).2.2 [l.n]).2, Wl.tol ⟨l.n + 1, (Wl.fr d).size, false⟩ (Wl.drp (Wl.beg s (l.n + 1) d).2.2 [l.n]).1) := by
  unfold Wl.trn
  rw [if_neg (by rw [hb]; decide), if_neg hn, if_pos he, (drp_one _ _).1, (drp_one _ _).2, beg_fr he]
/- behind the new file's head: the log's own block is untouched -/
theorem T3.lg {l : Wl.Lg} (h : LgAt w g b l) (hd : DAt w b m A s) (k : T3 w w' b m x) (hx : g ≠ x) : LgAt w' g b l := h.keep (k.block g h.lt (h.ne hd).1 (h.ne hd).2 hx)
/- the log has another file -/
theorem lg_store {u : World} (k : LlR u w b m g s l) (n z : Int) : LlR u ((w.setCell ⟨g, 0, none⟩ (ptr b)).setCell ⟨g, 1, none⟩ (.int .i64 n)) b m g s ⟨n, z, l.br⟩ := by
  obtain ⟨⟨A2, k1⟩, k2, k3⟩ := k
  have hne := k2.ne k1
  have hs : ∀ (W : World) (A2 : Nat → Int) (o : Nat) (v : Value), DAt W b m A2 s → DAt (W.setCell ⟨g, o, none⟩ v) b m A2 s := fun W A2 o v k => k.keep (Below.heap_setCell W _ _ b (fun e => hne.1 e.symm)) (Below.heap_setCell W _ _ m (fun e => hne.2 e.symm))
  exact ⟨⟨A2, hs _ _ _ _ (hs _ _ _ _ k1)⟩, (k2.s0 _).s1 _, (k3.trans (T3.set _ _ _ _ _ _)).trans (T3.set _ _ _ _ _ _)⟩
theorem lg_drop {u : World} (k : LlR u w b m g s l) {n : Int} (h0 : -9223372036854775808 ≤ n) (h1 : n ≤ 9223372036854775807) (x : Nat) (hx : x = w.heap.size) : Calls Tryz.prog 48 #[ptr g, .slice (some ⟨x, 0, none⟩) 1 1] (w.alloc (.cells #[.int .i64 n] 3)) fun e w' => e = .returned (.int .i64 (Wl.drp s [n]).1) ∧ LlR u w' b m g (Wl.drp s [n]).2 l := by
  subst hx
  obtain ⟨⟨A2, k1⟩, k2, k3⟩ := k
  have hbl := k1.lt
  have hml := k1.fl.lt
  have k1' := k1.gr (Gr.refl w).alloc (w' := w.alloc (.cells #[.int .i64 n] 3))
  have k2' : LgAt _ g b l := k2.gr (Gr.refl w).alloc (w' := w.alloc (.cells #[.int .i64 n] 3))
  refine (remove_all (l := [n]) k1' k2'.fa (int_one w n) (fun p e => ?_) (by simp) (fun x hx => ?_)).mono ?_
  · cases e
    exact ⟨by show w.heap.size ≠ b; omega, by show w.heap.size ≠ m; omega⟩
  · simp at hx; subst hx; exact ⟨h0, h1⟩
  · rintro e w' ⟨rfl, r1, r2⟩
    exact ⟨rfl, r1, k2'.td k1' r2, (k3.trans (T3.gr (Gr.refl w).alloc b m g)).trans (r2.t3 g)⟩
set_option maxHeartbeats 8000000 in
set_option maxRecDepth 100000 in
theorem lturn_any (h : DAt w b m A s) (hl : LgAt w g b l) (hT : Tab w) (d : ByteArray) (h0 : 0 ≤ l.n) (h1 : l.n ≤ 1000000) (hd : d.size ≤ 9223372036854775807) :
    Calls Tryz.prog 20 #[ptr g, .string d] w fun e w' => e = .returned (.int .i64 (Wl.trn s l d).1) ∧ LlR w w' b m g (Wl.trn s l d).2.1 (Wl.trn s l d).2.2 := by
  have HR := Lib.hid (ready_any hl)
  cases hb : l.br with
  | true =>
    rw [trn_br hb]
    have HL : Hid (LlR w w b m g s l) := ⟨⟨A, h⟩, hl, T3.refl _ _ _ _⟩
    rw [hb] at HR
    clear h hl hT
    go_enter Tryz.func20, Tryz.ntmps20
    go_wp2_with (go_at_call 43; refine HR.out.mono ?_; rintro e w' ⟨rfl, hw⟩; obtain rfl := hw.symm; clear hw)
    go_ret
    exact ⟨rfl, HL.out⟩
  | false =>
    rw [hb] at HR
    have c0 := hl.c0
    have c1 := hl.c1
    have c2 := hl.c2
    have f0 := hl.f0
    have f1 := hl.f1
    have f2 := hl.f2
    have hlt := hl.lt
    by_cases hn : l.n = 1000000
    · rw [trn_top hb hn]
      have HL : Hid (LlR w w b m g s l) := ⟨⟨A, h⟩, hl, T3.refl _ _ _ _⟩
      rw [hn] at c1
      clear h hl hT
      go_enter Tryz.func20, Tryz.ntmps20
      go_wp2_with (go_at_call 43; refine HR.out.mono ?_; rintro e w' ⟨rfl, hw⟩; obtain rfl := hw.symm; clear hw)
      go_ret
      exact ⟨rfl, HL.out⟩
    · have hnb : (l.n == 1000000) = false := by simpa using hn
      have HB : Hid (∀ w1, Gr w w1 → Fa w1 w.heap.size b (l.n + 1) → Calls Tryz.prog 47 #[ptr w.heap.size, .string d] w1 fun e w' => e = .returned (.int .i64 (Wl.beg s (l.n + 1) d).2.1) ∧ (∃ A, DAt w' b m A (Wl.beg s (l.n + 1) d).2.2) ∧ Fa w' w.heap.size b (l.n + 1) ∧ T3 w w' b m g ∧ LgAt w' g b l) := by
        intro w1 k kf
        refine (wbegin_any (h.gr k) kf (hT.gr k) d (by omega) (by omega) hd).mono ?_
        rintro e w' ⟨rfl, r⟩
        have hlk : LgAt w1 g b l := hl.gr k
        exact ⟨rfl, r.1, kf.td (h.gr k) r.2, ((Td.gr k).trans r.2).t3 g, hlk.td (h.gr k) r.2⟩
      by_cases he : (Wl.beg s (l.n + 1) d).2.1 = 0
      · rw [trn_yes hb hn he]
        rw [he] at HB
        have HSt : Hid (∀ w2, LlR w w2 b m g (Wl.beg s (l.n + 1) d).2.2 l → LlR w ((w2.setCell ⟨g, 0, none⟩ (ptr b)).setCell ⟨g, 1, none⟩ (.int .i64 (l.n + 1))) b m g (Wl.beg s (l.n + 1) d).2.2 ⟨l.n + 1, (Wl.fr d).size, false⟩) := by
          intro w2 k
          have := lg_store k (l.n + 1) ((Wl.fr d).size : Int)
          rw [hb] at this
          exact this
        have HRm : Hid (∀ (w2 : World) (x : Nat), LlR w w2 b m g (Wl.beg s (l.n + 1) d).2.2 ⟨l.n + 1, (Wl.fr d).size, false⟩ → x = w2.heap.size → Calls Tryz.prog 48 #[ptr g, .slice (some ⟨x, 0, none⟩) 1 1] (w2.alloc (.cells #[.int .i64 l.n] 3)) fun e w' => e = .returned (.int .i64 (Wl.drp (Wl.beg s (l.n + 1) d).2.2 [l.n]).1) ∧ LlR w w' b m g (Wl.drp (Wl.beg s (l.n + 1) d).2.2 [l.n]).2 ⟨l.n + 1, (Wl.fr d).size, false⟩) := fun w2 x k e => lg_drop k (by omega) (by omega) x e
        have HAn : Hid (∀ w2, LlR w w2 b m g (Wl.drp (Wl.beg s (l.n + 1) d).2.2 [l.n]).2 ⟨l.n + 1, (Wl.fr d).size, false⟩ → Calls Tryz.prog 45 #[ptr g, .int .i64 (Wl.drp (Wl.beg s (l.n + 1) d).2.2 [l.n]).1] w2 fun e w' => e = .returned (.int .i64 (Wl.drp (Wl.beg s (l.n + 1) d).2.2 [l.n]).1) ∧ LlR w w' b m g (Wl.drp (Wl.beg s (l.n + 1) d).2.2 [l.n]).2 (Wl.tol ⟨l.n + 1, (Wl.fr d).size, false⟩ (Wl.drp (Wl.beg s (l.n + 1) d).2.2 [l.n]).1)) := fun w2 k => answer_ll k _
        have hwr : IntKind.i64.wrap (l.n + 1) = l.n + 1 := wrapI (by omega) (by omega)
        clear h hl hT
        simp only at *
        generalize Wl.drp (Wl.beg s (l.n + 1) d).2.2 [l.n] = D at *
        generalize (Wl.beg s (l.n + 1) d).2.2 = sB at *
        generalize ((Wl.fr d).size : Int) = zz at *
        obtain ⟨eD, sD⟩ := D
        simp only at *
        go_enter Tryz.func20, Tryz.ntmps20
        go_upto_region 6 with (go_at_call 43; refine HR.out.mono ?_; rintro e w' ⟨rfl, hw⟩; obtain rfl := hw.symm; clear hw)
        go_region
        have HG1 : Hid (Gr w (w.alloc (.cells #[ptr b, .int .i64 (l.n + 1)] 75)).drew) := (Gr.refl w).alloc.drew
        have HF1 : Hid (Fa (w.alloc (.cells #[ptr b, .int .i64 (l.n + 1)] 75)).drew w.heap.size b (l.n + 1)) := (fa_new w b (l.n + 1)).gr (Gr.refl _).drew
        go_wp2_with fail
        refine (HB.out _ HG1.out HF1.out).mono ?_
        rintro e w2 ⟨rfl, r1, r2, r3, r4⟩
        have HK : Hid (LlR w w2 b m g sB l) := ⟨r1, r4, r3⟩
        obtain ⟨d0, d1⟩ := r2
        have hgx : g ≠ w.heap.size := by omega
        clear c0 c1 c2 f0 f1 f2
        have c0 := r4.c0
        have c1 := r4.c1
        have c2 := r4.c2
        have f0 := r4.f0
        have f1 := r4.f1
        have f2 := r4.f2
        clear r1 r3 r4 HB HG1 HF1
        go_wp2_with fail
        have HS2 := Lib.hid (HSt.out _ HK.out)
        refine (HRm.out _ _ HS2.out (by simp)).mono ?_
        rintro e w3 ⟨rfl, hr3⟩
        have HR3 := Lib.hid hr3
        clear hr3
        go_wp2_with fail
        refine (HAn.out _ HR3.out).mono ?_
        rintro e w4 ⟨rfl, hr4⟩
        have HR4 := Lib.hid hr4
        clear hr4
        go_wp2
        go_ret
        exact ⟨rfl, HR4.out⟩
      · rw [trn_no hb hn he]
        have heb : ((Wl.beg s (l.n + 1) d).2.1 == 0) = false := by simpa using he
        have HAn : Hid (∀ w2, LlR w w2 b m g (Wl.beg s (l.n + 1) d).2.2 l → Calls Tryz.prog 45 #[ptr g, .int .i64 (Wl.beg s (l.n + 1) d).2.1] w2 fun e w' => e = .returned (.int .i64 (Wl.beg s (l.n + 1) d).2.1) ∧ LlR w w' b m g (Wl.beg s (l.n + 1) d).2.2 (Wl.tol l (Wl.beg s (l.n + 1) d).2.1)) := fun w2 k => answer_ll k _
        have hwr : IntKind.i64.wrap (l.n + 1) = l.n + 1 := wrapI (by omega) (by omega)
        clear h hl hT
        simp only at *
        generalize (Wl.beg s (l.n + 1) d).2.1 = eB at *
        generalize (Wl.beg s (l.n + 1) d).2.2 = sB at *
        go_enter Tryz.func20, Tryz.ntmps20
        go_upto_region 6 with (go_at_call 43; refine HR.out.mono ?_; rintro e w' ⟨rfl, hw⟩; obtain rfl := hw.symm; clear hw)
        go_region
        have HG1 : Hid (Gr w (w.alloc (.cells #[ptr b, .int .i64 (l.n + 1)] 75)).drew) := (Gr.refl w).alloc.drew
        have HF1 : Hid (Fa (w.alloc (.cells #[ptr b, .int .i64 (l.n + 1)] 75)).drew w.heap.size b (l.n + 1)) := (fa_new w b (l.n + 1)).gr (Gr.refl _).drew
        go_wp2_with fail
        refine (HB.out _ HG1.out HF1.out).mono ?_
        rintro e w2 ⟨rfl, r1, r2, r3, r4⟩
        have HK : Hid (LlR w w2 b m g sB l) := ⟨r1, r4, r3⟩
        clear r1 r2 r3 r4 HB HG1 HF1
        go_wp2_with fail
        refine (HAn.out _ HK.out).mono ?_
        rintro e w3 ⟨rfl, hr3⟩
        have HR3 := Lib.hid hr3
        clear hr3
        go_wp2
        go_ret
        exact ⟨rfl, HR3.out⟩
end Go.Proofs.YtojmhhmpmpbpfaaGreatDoor
