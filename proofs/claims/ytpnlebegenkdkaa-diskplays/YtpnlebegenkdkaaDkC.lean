
/- disk: count, change, places, Sync, Cut, Remove, Arm, Crash, Boot, Dead. -/
import Derived.Test.YtpnlebegenkdkaaDkL
import Derived.Test.YtpnlebegenkdkaaDkN
import Derived.Laws.CopyRow
namespace Go.Proofs.Ytpnlebegenkdkaa
open Go.RowKit Go.Maps
open Dk (Fl Fo St Ok Up zf emp used cutF fallA kf)
variable {w w' : World} {b m : Nat} {A : Nat → Int} {s : St}

theorem FaR.mk (h : DAt w' b m A s) (t : Td w w' b m) : FaR w w' b m s := ⟨⟨A, h⟩, t⟩
theorem FaR.gr {a w w' : World} (g : Gr a w) (h : FaR w w' b m s) : FaR a w' b m s := ⟨h.1, (Td.gr g).trans h.2⟩
theorem FaR.td {a w w' : World} (g : Td a w b m) (h : FaR w w' b m s) : FaR a w' b m s := ⟨h.1, g.trans h.2⟩
theorem FaR.up {a w w' : World} (h : FaR a w b m s) (g : Gr w w') : FaR a w' b m s := by
  obtain ⟨⟨A, h⟩, t⟩ := h
  exact ⟨⟨A, h.gr g⟩, t.gr' g⟩
theorem FaR.refl (h : DAt w b m A s) : FaR w w b m s := ⟨⟨A, h⟩, Td.refl _ _ _⟩
set_option maxHeartbeats 4000000 in
set_option maxRecDepth 100000 in
theorem count_any (h : DAt w b m A s) : Calls Try.prog 46 #[ptr b] w fun e w' => e = .returned (.int .i64 (Dk.cntE s)) ∧ FaR w w' b m (Dk.cntS s) := by
  have c3 := h.lf
  have f3 := h.fz 3 (by omega)
  have hl0 := h.ok.l0
  have hl1 := h.ok.l1
  unfold Dk.cntE Dk.cntS
  by_cases h1 : s.left = 0
  · rw [if_pos h1, if_pos h1]
    rw [h1] at c3
    have HR := Lib.hid (FaR.refl h)
    clear h f3
    go_enter Try.func46, Try.ntmps46
    go_wp2
    go_ret
    exact ⟨rfl, HR.out⟩
  · rw [if_neg h1, if_neg h1]
    have h2 := h.setLeft (s.left - 1) s.keep (fun _ => h.ka h1) ⟨h.ok.up, h.ok.fo, h.ok.len, h.ok.fits, h.ok.r1, by simp only; omega, by simp only; omega⟩
    have hlb : (s.left == 0) = false := by simpa using h1
    by_cases h3 : 0 < s.left - 1
    · rw [if_pos h3, if_pos h3]
      have HR := Lib.hid (FaR.mk h2 (Td.set _ _ _ _ _))
      have hd3 : decide (0 < s.left - 1) = true := decide_eq_true h3
      clear h h2
      go_enter Try.func46, Try.ntmps46
      go_wp2
      go_ret
      exact ⟨rfl, HR.out⟩
    · rw [if_neg h3, if_neg h3]
      have h4 : s.left - 1 = 0 := by omega
      have hd3 : decide (0 < s.left - 1) = false := decide_eq_false h3
      have HF := Lib.hid (fall_any h2 A (keep := s.keep) (h.ka h1))
      have HT := Lib.hid (Td.set w b m 3 (.int .i64 (s.left - 1)))
      have k0 := h.kp 0 (by omega)
      have k1 := h.kp 1 (by omega)
      have k2 := h.kp 2 (by omega)
      have k3 := h.kp 3 (by omega)
      have k4 := h.kp 4 (by omega)
      have k5 := h.kp 5 (by omega)
      have k6 := h.kp 6 (by omega)
      have k7 := h.kp 7 (by omega)
      simp only [Nat.reduceAdd, Nat.add_zero] at k0 k1 k2 k3 k4 k5 k6 k7
      rw [h4] at HF HT
      clear h h2
      go_enter Try.func46, Try.ntmps46
      go_wp2_with fail
      refine HF.out.mono ?_
      rintro e w2 ⟨rfl, hr⟩
      have HR := Lib.hid (FaR.td HT.out hr)
      clear hr
      go_wp2
      go_ret
      exact ⟨rfl, HR.out⟩
set_option maxHeartbeats 4000000 in
set_option maxRecDepth 100000 in
theorem change_any (h : DAt w b m A s) {g : Fl} {k : Int} (hg : g ∈ s.L) (h0 : 0 ≤ k) (h1 : k ≤ g.d.size) :
    Calls Try.prog 47 #[ptr b, flV (Dk.fst g k)] w fun e w' => e = .returned (.int .i64 (Dk.cntE s)) ∧ FaR w w' b m (Dk.chS s (Dk.fst g k)) := by
  have hok := h.ok
  have hfo := hok.fo g hg
  have hsz : g.d.size ≤ 200000 := by
    have h1 := Dk.used_del hok.up (Dk.has_of hg)
    rw [Dk.get_of hok.up hg] at h1
    have := hok.fits; have := hok.r1; omega
  have HC := Lib.hid (count_any (h.gr ((Gr.refl w).alloc (o := .cells #[.int .i64 (Dk.fst g k).n, .string (Dk.fst g k).d, .int .i64 (Dk.fst g k).y] 40))))
  have HO : Hid (∀ w', Calls Try.prog 41 #[flV (Dk.fst g k)] w' fun e w2 => e = .returned (flV (Dk.fst g k)) ∧ Gr w' w2) := fun w' => own_any _ w' (by simp [Dk.fst]; omega)
  have hbl := h.lt
  have hml := h.fl.lt
  by_cases hc : Dk.cntE s = 0
  · have HP : Hid (∀ w' A', DAt w' b m A' (Dk.cntS s) → Calls Try.prog 40 #[ptr b, flV (Dk.fst g k)] w' fun e w2 => e = .returned (.tuple #[]) ∧ FaR w' w2 b m (Dk.chS s (Dk.fst g k))) := by
      intro w' A' hw'
      have eL := Dk.cnt_L hc
      have e : Dk.chS s (Dk.fst g k) = { Dk.cntS s with L := Dk.put (Dk.fst g k) (Dk.cntS s).L } := by unfold Dk.chS; rw [if_pos hc, eL]
      have hok2 := hok.ch hg h0 h1
      rw [e] at hok2 ⊢
      refine (put_any hw' (fun _ => ?_) ?_ ?_ hok2).mono ?_
      · rw [eL]; exact (Dk.has_of hg : Dk.has s.L g.n = true)
      · have := hfo.n0; show _ ≤ g.n; omega
      · have := hfo.n1; show g.n ≤ _; omega
      · rintro e w2 ⟨rfl, q1, q2⟩
        exact ⟨rfl, FaR.mk q1 q2⟩
    rw [hc] at HC ⊢
    clear h hg hok hfo
    generalize Dk.fst g k = f at *
    generalize Dk.chS s f = cs at *
    generalize Dk.cntS s = ct at *
    obtain ⟨fn, fd, fy⟩ := f
    simp only at *
    go_enter Try.func47, Try.ntmps47
    go_wp2_with fail
    refine HC.out.mono ?_
    rintro e w1 ⟨rfl, ⟨A1, hd1⟩, ht1⟩
    obtain ⟨c0, c1, c2, _, _, _, _⟩ := BoxAt.new w (.int .i64 fn) (.string fd) (.int .i64 fy) 40 _ rfl
    have d0 := ht1.cell (by omega) (by omega) c0
    have d1 := ht1.cell (by omega) (by omega) c1
    have d2 := ht1.cell (by omega) (by omega) c2
    have HD1 := Lib.hid hd1
    have HT1 := Lib.hid ((Td.gr (Gr.refl w).alloc).trans ht1)
    clear hd1 ht1 c0 c1 c2 HC
    go_wp2_with fail
    refine (HO.out _).mono ?_
    rintro e w2 ⟨rfl, hg2⟩
    have HG2 := Lib.hid hg2
    clear hg2 d0 d1 d2
    go_wp2_with fail
    refine (HP.out _ _ (HD1.out.gr HG2.out)).mono ?_
    rintro e w3 ⟨rfl, hr⟩
    have HR := Lib.hid (FaR.td (HT1.out.gr' HG2.out) hr)
    clear hr
    go_wp2
    go_ret
    exact ⟨rfl, HR.out⟩
  · have e : Dk.chS s (Dk.fst g k) = Dk.cntS s := by unfold Dk.chS; rw [if_neg hc]
    rw [e]
    have hcb : (Dk.cntE s == 0) = false := by simpa using hc
    clear h hg hok hfo e HO
    generalize Dk.fst g k = f at *
    generalize Dk.cntS s = ct at *
    generalize Dk.cntE s = ce at *
    obtain ⟨fn, fd, fy⟩ := f
    simp only at *
    go_enter Try.func47, Try.ntmps47
    go_wp2_with fail
    refine HC.out.mono ?_
    rintro e w1 ⟨rfl, hr⟩
    have HR := Lib.hid (FaR.gr (Gr.refl w).alloc hr)
    clear hr HC
    go_wp2
    go_ret
    exact ⟨rfl, HR.out⟩
/- places -/
theorem setRow_new (w : World) (cur arr : Array Value) (t : TypeId) (g : Nat) (hg : g = w.heap.size) : (w.alloc (.cells cur t)).setRow g arr = w.alloc (.cells arr t) := by
  subst hg
  unfold World.setRow World.alloc
  simp only [World.mk.injEq, and_true]
  apply Array.ext_getElem?
  intro i
  rw [Array.getElem?_modify]
  by_cases h : w.heap.size = i
  · subst h; simp
  · rw [if_neg h]
    rw [Array.getElem?_push, Array.getElem?_push, if_neg (fun e => h e.symm), if_neg (fun e => h e.symm)]
theorem kf_row (l : List Int) : ([] ++ ((l.take 8).map (Value.int .i64)) ++ ([.int .i64 0, .int .i64 0, .int .i64 0, .int .i64 0, .int .i64 0, .int .i64 0, .int .i64 0, .int .i64 0] : List Value).drop (0 + ((l.take 8).map (Value.int .i64)).length)).toArray
    = #[.int .i64 (kf l 0), .int .i64 (kf l 1), .int .i64 (kf l 2), .int .i64 (kf l 3), .int .i64 (kf l 4), .int .i64 (kf l 5), .int .i64 (kf l 6), .int .i64 (kf l 7)] := by
  match l with
  | [] => rfl
  | [_] => rfl
  | [_, _] => rfl
  | [_, _, _] => rfl
  | [_, _, _, _] => rfl
  | [_, _, _, _, _] => rfl
  | [_, _, _, _, _, _] => rfl
  | [_, _, _, _, _, _, _] => rfl
  | _ :: _ :: _ :: _ :: _ :: _ :: _ :: _ :: _ => rfl
abbrev k0 : Nat → Int := fun _ => 0
/- a row of numbers that came in -/
structure KAt (w : World) (ad : Option Addr) (cap : Nat) (l : List Int) : Prop where
  row : IntsAt w ad l
  cap0 : ad = none → cap = 0
theorem KAt.gr {ad : Option Addr} {cap : Nat} {l : List Int} (h : KAt w ad cap l) (g : Gr w w') : KAt w' ad cap l := ⟨h.row.gr g, h.cap0⟩
theorem KAt.none (w : World) : KAt w .none 0 [] := ⟨IntsAt.nil, fun _ => rfl⟩
set_option maxRecDepth 100000 in
theorem copy_run {ad : Option Addr} {cap : Nat} {l : List Int} (h : KAt w ad cap l) (ty : TypeId) :
    ∃ n, (Builtin.copy_ #[33, 33] ty #[.slice (some ⟨w.heap.size + 1, 0, none⟩) 8 8, .slice ad l.length cap]).run Try.prog ((w.alloc (kC k0)).alloc (kC k0)) = .ok (goInt n) ((w.alloc (kC k0)).alloc (kC (kf l))) := by
  cases ad with
  | none =>
    have hl : l = [] := by
      cases l with
      | nil => rfl
      | cons x t =>
        obtain ⟨_, _, e, _⟩ := h.row 0 (by simp)
        cases e
    subst hl
    obtain rfl := h.cap0 rfl
    exact ⟨0, run_copy_nil Try.prog _ 33 33 ty 3 _ 8 8 Try.underlying33 (by kernel_rfl)⟩
  | some a =>
    refine ⟨((l.take 8).map (Value.int .i64)).length, ?_⟩
    have hs : (w.alloc (kC k0)).heap.size = w.heap.size + 1 := by simp
    have := run_copy_row (P := Try.prog) ((w.alloc (kC k0)).alloc (kC k0)) 33 33 ty 3 (w.heap.size + 1) 0 8 8 a l.length cap #[.int .i64 0, .int .i64 0, .int .i64 0, .int .i64 0, .int .i64 0, .int .i64 0, .int .i64 0, .int .i64 0] 46 ((l.take 8).map (Value.int .i64)) Try.underlying33 (by kernel_rfl)
      (by rw [← hs]; exact (MapKept.heap_alloc _ _).1) (by rw [List.length_map, List.length_take]; exact Nat.min_comm _ _) (by
        intro j v hv
        rw [List.getElem?_map] at hv
        cases e : (l.take 8)[j]? with
        | none => rw [e] at hv; cases hv
        | some z =>
          rw [e] at hv
          cases hv
          rw [List.getElem?_take] at e
          split at e
          · obtain ⟨hj, rfl⟩ := List.getElem?_eq_some_iff.1 e
            obtain ⟨b, off, ea, hb, hc⟩ := h.row j hj
            cases ea
            rw [Addr.add_lit]
            exact (Gr.refl w).alloc.alloc.keep hc
          · cases e) (by simp; omega) (by
        intro v hv
        obtain ⟨z, _, rfl⟩ := List.mem_map.1 hv
        rfl)
    rw [this]
    congr 1
    rw [show (#[Value.int .i64 0, .int .i64 0, .int .i64 0, .int .i64 0, .int .i64 0, .int .i64 0, .int .i64 0, .int .i64 0] : Array Value).toList.take 0 = [] from rfl]
    rw [kf_row l]
    exact setRow_new _ _ _ _ _ hs.symm
set_option maxHeartbeats 4000000 in
set_option maxRecDepth 100000 in
theorem places_any {ad : Option Addr} {cap : Nat} {l : List Int} (h : KAt w ad cap l) :
    Calls Try.prog 49 #[.slice ad l.length cap] w fun e w' => e = .returned (kA (kf l)) ∧ Gr w w' := by
  obtain ⟨n, hc⟩ := copy_run h 3
  clear h
  go_enter Try.func49, Try.ntmps49
  go_wp2
  exact bodyPost_ret (v := kA (kf l)) (by simp [results, Try.results49, go_sem]) rfl ⟨rfl, (by (repeat' (first | with_reducible exact Gr.refl _ | with_reducible refine Gr.set ?_ _ ?_ _ | with_reducible refine Gr.alloc ?_ | with_reducible refine Gr.drew ?_ | with_reducible refine Gr.trans ?_ (by assumption))) <;> (first | (simp; done) | (simp; omega) | omega))⟩
end Go.Proofs.Ytpnlebegenkdkaa
