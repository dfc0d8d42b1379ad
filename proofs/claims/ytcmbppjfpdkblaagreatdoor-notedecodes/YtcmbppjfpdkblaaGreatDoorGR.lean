/- Parts of these proofs, laid together. -/
import Derived.Test.YtcmbppjfpdkblaaGreatDoorGN
import Derived.Test.YtcmbppjfpdkblaaGreatDoorGE
import Derived.BigQuiet
import Derived.Deep.QuietTactic
import Derived.Deep.RegionHeld3
import Derived.Test.YtcmbppjfpdkblaaGreatDoorGJ
/- note: the methods of a place. -/
namespace Go.Proofs.YtcmbppjfpdkblaaGreatDoor
open Go.RowKit

/- a place in memory, and what stands behind it in its block -/
abbrev Pl (w : World) (g : Nat) (s : ByteArray) (p : Int) (b : Bool) (tl : List Value) : Prop := Cs w g (.string s :: .int .i64 p :: .bool b :: tl)

set_option maxHeartbeats 400000 in
theorem stay_any (g : Nat) (s : ByteArray) (p : Int) (b : Bool) (tl : List Value) (w : World) (h : Pl w g s p b tl) :
    Calls Tryz.prog 86 #[.pointer (some ⟨g, 0, none⟩)] w fun e w' => e = .returned (.tuple #[]) ∧ Pl w' g s p true tl ∧ GB g w w' := by
  have HP : Hid (Pl w g s p b tl) := h
  have c2 := h.at_ 2 _ rfl
  have f2 := h.fz 2 (by simp)
  have lt := h.lt
  clear h
  go_enter Tryz.func86, Tryz.ntmps86
  go_wp2
  go_end0
  exact ⟨rfl, HP.out.set 2 (by simp) _, GB.setNew (GB.refl g w) _ _ (Or.inr rfl)⟩

set_option maxHeartbeats 400000 in
theorem pass_any (g : Nat) (s : ByteArray) (p t e : Int) (b : Bool) (tl : List Value) (w : World) (h : Pl w g s p b tl) :
    Calls Tryz.prog 88 #[.pointer (some ⟨g, 0, none⟩), .int .i64 t, .int .i64 e] w fun e' w' => e' = .returned (.tuple #[]) ∧ Pl w' g s (if e = 0 then t else p) (b || decide (¬ e = 0)) tl ∧ GB g w w' := by
  have HP : Hid (Pl w g s p b tl) := h
  have HS : Hid (∀ w', Pl w' g s p b tl → Calls Tryz.prog 86 #[.pointer (some ⟨g, 0, none⟩)] w' fun e w2 => e = .returned (.tuple #[]) ∧ Pl w2 g s p true tl ∧ GB g w' w2) := fun w' h' => stay_any g s p b tl w' h'
  have c1 := h.at_ 1 _ rfl
  have f1 := h.fz 1 (by simp)
  have lt := h.lt
  clear h
  by_cases he : e = 0
  · subst he
    rw [if_pos rfl, decide_eq_false (by simp), Bool.or_false]
    go_enter Tryz.func88, Tryz.ntmps88
    go_wp2
    go_end0
    exact ⟨rfl, HP.out.set 1 (by simp) _, GB.setNew (GB.refl g w) _ _ (Or.inr rfl)⟩
  · rw [if_neg he, decide_eq_true he, Bool.or_true]
    have he' : (e != 0) = true := by simpa using he
    go_enter Tryz.func88, Tryz.ntmps88
    go_wp2_with fail
    refine (HS.out _ HP.out).mono ?_
    rintro e1 w1 ⟨rfl, h1, g1⟩
    have H1 : Hid (Pl w1 g s p true tl) := h1
    have G1 : Hid (GB g w w1) := g1
    clear h1 g1
    go_wp2
    refine bodyPost_ret (v := .tuple #[]) (results_none Tryz.results88 _ _ _) rfl ?_
    exact ⟨rfl, H1.out, G1.out⟩

set_option maxHeartbeats 400000 in
theorem over_any (g : Nat) (s : ByteArray) (p : Nat) (b : Bool) (tl : List Value) (w : World) (h : Pl w g s (p : Int) b tl) :
    Calls Tryz.prog 48 #[.pointer (some ⟨g, 0, none⟩)] w fun e w' => e = .returned (.bool (Nt.overB s.data.toList ⟨p, b⟩)) ∧ Gr w w' := by
  have hsz : s.data.toList.length = s.size := by simp
  have c0 := h.at_ 0 _ rfl
  have c1 := h.at_ 1 _ rfl
  have c2 := h.at_ 2 _ rfl
  have lt := h.lt
  have HE : Hid (Nt.overB s.data.toList ⟨p, b⟩ = (!b && decide (p = s.size))) := by show _ = _; unfold Nt.overB; rw [hsz]
  generalize Nt.overB s.data.toList ⟨p, b⟩ = R at *
  clear h hsz
  cases b with
  | true =>
    go_enter Tryz.func48, Tryz.ntmps48
    go_wp2
    go_quiet (fail)
    go_wp2
    go_ret
    exact ⟨by rw [HE.out]; rfl, ⟨below_drewN (Below.refl _ _) _⟩⟩
  | false =>
    have hq : ((p : Int) == (s.size : Int)) = decide (p = s.size) := by
      by_cases e : p = s.size <;> simp [e]; omega
    generalize decide (p = s.size) = q at *
    go_enter Tryz.func48, Tryz.ntmps48
    go_wp2
    go_quiet (fail)
    go_wp2
    go_ret
    exact ⟨by rw [HE.out]; rfl, ⟨below_drewN (Below.refl _ _) _⟩⟩

set_option maxHeartbeats 2000000 in
set_option maxRecDepth 100000 in
theorem plNum_any (g : Nat) (s : ByteArray) (p : Nat) (b : Bool) (tl : List Value) (w : World) (h : Pl w g s (p : Int) b tl) (hs : s.size ≤ 140737488355328) :
    Calls Tryz.prog 84 #[.pointer (some ⟨g, 0, none⟩)] w fun e w' => e = .returned (.int .i64 (Nt.nv s.data.toList ⟨p, b⟩)) ∧ Pl w' g s ((Nt.ns s.data.toList ⟨p, b⟩).p : Int) (Nt.ns s.data.toList ⟨p, b⟩).b tl ∧ GB g w w' := by
  have HP : Hid (Pl w g s (p : Int) b tl) := h
  have c0 := h.at_ 0 _ rfl
  have c1 := h.at_ 1 _ rfl
  have c2 := h.at_ 2 _ rfl
  have lt := h.lt
  have HV : Hid (Nt.nv s.data.toList ⟨p, b⟩ = if b = true then 0 else if 1000000000 < (Pk.takeNum s.data.toList p).1 then 0 else ((Pk.takeNum s.data.toList p).1 : Int)) := rfl
  have HS : Hid (Nt.ns s.data.toList ⟨p, b⟩ = if b = true then ⟨p, b⟩ else ⟨if (Pk.takeNum s.data.toList p).2.2 = 0 then (Pk.takeNum s.data.toList p).2.1 else p, decide (¬ (Pk.takeNum s.data.toList p).2.2 = 0) || decide (1000000000 < (Pk.takeNum s.data.toList p).1)⟩) := rfl
  generalize Nt.nv s.data.toList ⟨p, b⟩ = NV at *
  generalize Nt.ns s.data.toList ⟨p, b⟩ = NS at *
  clear h
  cases b with
  | true =>
    rw [if_pos rfl] at HV HS
    go_enter Tryz.func84, Tryz.ntmps84
    go_wp2
    go_ret
    exact ⟨by rw [HV.out]; rfl, by rw [HS.out]; exact HP.out, GB.refl _ _⟩
  | false =>
    rw [if_neg (by simp)] at HV HS
    have HT : Hid (∀ w' : World, Calls Tryz.prog 81 #[.string s, .int .i64 (p : Int)] w' fun e w2 => e = .returned (.tuple #[.int .u64 (Pk.takeNum s.data.toList p).1, .int .i64 (Pk.takeNum s.data.toList p).2.1, .int .i64 (Pk.takeNum s.data.toList p).2.2]) ∧ Gr w' w2) := fun w' => (takeNumber_any s p w' hs).mono (by rintro e' w2 ⟨rfl, rfl⟩; exact ⟨rfl, Gr.refl _⟩)
    have h64 : (Pk.takeNum s.data.toList p).1 < 18446744073709551616 := by
      rcases Pk.takeNum_spec s.data.toList p with ⟨_, h, _⟩ | h | h | h
      · exact h
      all_goals rw [h]; decide
    generalize (Pk.takeNum s.data.toList p).1 = v at *
    generalize (Pk.takeNum s.data.toList p).2.1 = t at *
    generalize (Pk.takeNum s.data.toList p).2.2 = e at *
    have HA : Hid (∀ w', Pl w' g s (p : Int) false tl → Calls Tryz.prog 88 #[.pointer (some ⟨g, 0, none⟩), .int .i64 (t : Int), .int .i64 (e : Int)] w' fun e' w2 => e' = .returned (.tuple #[]) ∧ Pl w2 g s ((if e = 0 then t else p : Nat) : Int) (decide (¬ e = 0)) tl ∧ GB g w' w2) := by
      intro w' h'
      refine (pass_any g s (p : Int) (t : Int) (e : Int) false tl w' h').mono ?_
      rintro e' w2 ⟨rfl, h1, h2⟩
      have e1 : (if (e : Int) = 0 then (t : Int) else (p : Int)) = ((if e = 0 then t else p : Nat) : Int) := by
        by_cases hz : e = 0
        · subst hz; simp
        · rw [if_neg (by omega), if_neg hz]
      have e2 : (false || decide (¬ (e : Int) = 0)) = decide (¬ e = 0) := by
        by_cases hz : e = 0
        · subst hz; simp
        · rw [decide_eq_true hz, decide_eq_true (by omega)]; rfl
      rw [e1, e2] at h1
      exact ⟨rfl, h1, h2⟩
    have HY : Hid (∀ w', Pl w' g s ((if e = 0 then t else p : Nat) : Int) (decide (¬ e = 0)) tl → Calls Tryz.prog 86 #[.pointer (some ⟨g, 0, none⟩)] w' fun e' w2 => e' = .returned (.tuple #[]) ∧ Pl w2 g s ((if e = 0 then t else p : Nat) : Int) true tl ∧ GB g w' w2) := fun w' h' => stay_any g s _ _ tl w' h'
    generalize (if e = 0 then t else p : Nat) = t2 at *
    generalize decide (¬ e = 0) = bz at *
    by_cases hv : 1000000000 < v
    · rw [if_pos hv] at HV
      rw [decide_eq_true hv, Bool.or_true] at HS
      have hvI : (1000000000 : Int) < (v : Int) := by omega
      go_enter Tryz.func84, Tryz.ntmps84
      go_wp2
      go_region_held3 (fun w' => Gr w w' ∧ w'.cell? ⟨g, 0, none⟩ = some (.string s) ∧ w'.cell? ⟨g, 1, none⟩ = some (.int .i64 (p : Int)))
        ((go_split_ands; exact ⟨(by repeat (first | exact Gr.refl _ | refine Gr.alloc ?_ | refine Gr.drew ?_ | refine Gr.trans ?_ (by assumption))), Gr.keep (W := w) (by repeat (first | exact Gr.refl _ | refine Gr.alloc ?_ | refine Gr.drew ?_ | refine Gr.trans ?_ (by assumption))) c0, Gr.keep (W := w) (by repeat (first | exact Gr.refl _ | refine Gr.alloc ?_ | refine Gr.drew ?_ | refine Gr.trans ?_ (by assumption))) c1⟩))
        ((go_at_call 81; refine (HT.out _).mono ?_; rintro e' w0 ⟨rfl, hg0⟩; go_split_ands))
      all_goals
        go_wp2_with fail
        refine (HA.out _ ?_).mono ?_
        · exact HP.out.gr (by repeat (first | exact Gr.refl _ | refine Gr.alloc ?_ | refine Gr.drew ?_ | refine Gr.trans ?_ (by assumption)))
        rintro e1 w1 ⟨rfl, h1, g1⟩
        have H1 : Hid (Pl w1 g s (t2 : Int) bz tl) := h1
        have G1 : Hid (GB g w w1) := GB.trans (GB.ofGr (by repeat (first | exact Gr.refl _ | refine Gr.alloc ?_ | refine Gr.drew ?_ | refine Gr.trans ?_ (by assumption)))) g1
        clear h1 g1
        go_wp2_with fail
        refine (HY.out _ H1.out).mono ?_
        rintro e2 w2 ⟨rfl, h2, g2⟩
        have H2 : Hid (Pl w2 g s (t2 : Int) true tl) := h2
        have G2 := Lib.hid (G1.out.trans g2)
        clear h2 g2
        go_wp2
        go_ret
        exact ⟨by rw [HV.out]; rfl, by rw [HS.out]; exact H2.out, G2.out⟩
    · rw [if_neg hv] at HV
      rw [decide_eq_false hv, Bool.or_false] at HS
      have hvI : ¬ (1000000000 : Int) < (v : Int) := by omega
      have hwr : IntKind.i64.wrap (v : Int) = (v : Int) := by rw [IntKind.wrap_i64]; omega
      go_enter Tryz.func84, Tryz.ntmps84
      go_wp2
      go_region_held3 (fun w' => Gr w w' ∧ w'.cell? ⟨g, 0, none⟩ = some (.string s) ∧ w'.cell? ⟨g, 1, none⟩ = some (.int .i64 (p : Int)))
        ((go_split_ands; exact ⟨(by repeat (first | exact Gr.refl _ | refine Gr.alloc ?_ | refine Gr.drew ?_ | refine Gr.trans ?_ (by assumption))), Gr.keep (W := w) (by repeat (first | exact Gr.refl _ | refine Gr.alloc ?_ | refine Gr.drew ?_ | refine Gr.trans ?_ (by assumption))) c0, Gr.keep (W := w) (by repeat (first | exact Gr.refl _ | refine Gr.alloc ?_ | refine Gr.drew ?_ | refine Gr.trans ?_ (by assumption))) c1⟩))
        ((go_at_call 81; refine (HT.out _).mono ?_; rintro e' w0 ⟨rfl, hg0⟩; go_split_ands))
      all_goals
        go_wp2_with fail
        refine (HA.out _ ?_).mono ?_
        · exact HP.out.gr (by repeat (first | exact Gr.refl _ | refine Gr.alloc ?_ | refine Gr.drew ?_ | refine Gr.trans ?_ (by assumption)))
        rintro e1 w1 ⟨rfl, h1, g1⟩
        have H1 : Hid (Pl w1 g s (t2 : Int) bz tl) := h1
        have G1 : Hid (GB g w w1) := GB.trans (GB.ofGr (by repeat (first | exact Gr.refl _ | refine Gr.alloc ?_ | refine Gr.drew ?_ | refine Gr.trans ?_ (by assumption)))) g1
        clear h1 g1
        go_wp2
        go_ret
        exact ⟨by rw [HV.out]; go_num, by rw [HS.out]; exact H1.out, G1.out⟩


set_option maxHeartbeats 2000000 in
set_option maxRecDepth 100000 in
theorem plText_any (g : Nat) (s : ByteArray) (p : Nat) (b : Bool) (tl : List Value) (w : World) (h : Pl w g s (p : Int) b tl) (hs : s.size ≤ 140737488355328) :
    Calls Tryz.prog 72 #[.pointer (some ⟨g, 0, none⟩)] w fun e w' => e = .returned (.string ⟨(Nt.tv s.data.toList ⟨p, b⟩).toArray⟩) ∧ Pl w' g s ((Nt.ts s.data.toList ⟨p, b⟩).p : Int) (Nt.ts s.data.toList ⟨p, b⟩).b tl ∧ GB g w w' := by
  have HP : Hid (Pl w g s (p : Int) b tl) := h
  have c0 := h.at_ 0 _ rfl
  have c1 := h.at_ 1 _ rfl
  have c2 := h.at_ 2 _ rfl
  have lt := h.lt
  have HV : Hid (Nt.tv s.data.toList ⟨p, b⟩ = if b = true then [] else (Pk.takeText s.data.toList p).1) := rfl
  have HS : Hid (Nt.ts s.data.toList ⟨p, b⟩ = if b = true then ⟨p, b⟩ else ⟨if (Pk.takeText s.data.toList p).2.2 = 0 then (Pk.takeText s.data.toList p).2.1 else p, decide (¬ (Pk.takeText s.data.toList p).2.2 = 0)⟩) := rfl
  generalize Nt.tv s.data.toList ⟨p, b⟩ = NV at *
  generalize Nt.ts s.data.toList ⟨p, b⟩ = NS at *
  clear h
  cases b with
  | true =>
    rw [if_pos rfl] at HV HS
    go_enter Tryz.func72, Tryz.ntmps72
    go_wp2
    go_ret
    exact ⟨by rw [HV.out]; rfl, by rw [HS.out]; exact HP.out, GB.refl _ _⟩
  | false =>
    rw [if_neg (by simp)] at HV HS
    have HT : Hid (∀ w' : World, Calls Tryz.prog 87 #[.string s, .int .i64 (p : Int)] w' fun e w2 => e = .returned (.tuple #[.string ⟨(Pk.takeText s.data.toList p).1.toArray⟩, .int .i64 (Pk.takeText s.data.toList p).2.1, .int .i64 (Pk.takeText s.data.toList p).2.2]) ∧ Gr w' w2) := fun w' => takeText_any s p w' hs
    generalize (Pk.takeText s.data.toList p).1 = v at *
    generalize (Pk.takeText s.data.toList p).2.1 = t at *
    generalize (Pk.takeText s.data.toList p).2.2 = e at *
    have HA : Hid (∀ w', Pl w' g s (p : Int) false tl → Calls Tryz.prog 88 #[.pointer (some ⟨g, 0, none⟩), .int .i64 (t : Int), .int .i64 (e : Int)] w' fun e' w2 => e' = .returned (.tuple #[]) ∧ Pl w2 g s ((if e = 0 then t else p : Nat) : Int) (decide (¬ e = 0)) tl ∧ GB g w' w2) := by
      intro w' h'
      refine (pass_any g s (p : Int) (t : Int) (e : Int) false tl w' h').mono ?_
      rintro e' w2 ⟨rfl, h1, h2⟩
      have e1 : (if (e : Int) = 0 then (t : Int) else (p : Int)) = ((if e = 0 then t else p : Nat) : Int) := by
        by_cases hz : e = 0
        · subst hz; simp
        · rw [if_neg (by omega), if_neg hz]
      have e2 : (false || decide (¬ (e : Int) = 0)) = decide (¬ e = 0) := by
        by_cases hz : e = 0
        · subst hz; simp
        · rw [decide_eq_true hz, decide_eq_true (by omega)]; rfl
      rw [e1, e2] at h1
      exact ⟨rfl, h1, h2⟩
    generalize (if e = 0 then t else p : Nat) = t2 at *
    generalize decide (¬ e = 0) = bz at *
    go_enter Tryz.func72, Tryz.ntmps72
    go_wp2
    go_region_held3 (fun w' => Gr w w' ∧ w'.cell? ⟨g, 0, none⟩ = some (.string s) ∧ w'.cell? ⟨g, 1, none⟩ = some (.int .i64 (p : Int)))
      ((go_split_ands; exact ⟨(by repeat (first | exact Gr.refl _ | refine Gr.alloc ?_ | refine Gr.drew ?_ | refine Gr.trans ?_ (by assumption))), Gr.keep (W := w) (by repeat (first | exact Gr.refl _ | refine Gr.alloc ?_ | refine Gr.drew ?_ | refine Gr.trans ?_ (by assumption))) c0, Gr.keep (W := w) (by repeat (first | exact Gr.refl _ | refine Gr.alloc ?_ | refine Gr.drew ?_ | refine Gr.trans ?_ (by assumption))) c1⟩))
      ((go_at_call 87; refine (HT.out _).mono ?_; rintro e' w1 ⟨rfl, hg1⟩; go_split_ands))
    all_goals
      go_wp2_with fail
      refine (HA.out _ ?_).mono ?_
      · exact HP.out.gr (by repeat (first | exact Gr.refl _ | refine Gr.alloc ?_ | refine Gr.drew ?_ | refine Gr.trans ?_ (by assumption)))
      rintro e2 w2 ⟨rfl, h2, g2⟩
      have H2 : Hid (Pl w2 g s (t2 : Int) bz tl) := h2
      have G2 : Hid (GB g w w2) := GB.trans (GB.ofGr (by repeat (first | exact Gr.refl _ | refine Gr.alloc ?_ | refine Gr.drew ?_ | refine Gr.trans ?_ (by assumption)))) g2
      clear h2 g2
      go_wp2
      go_ret
      exact ⟨by rw [HV.out]; rfl, by rw [HS.out]; exact H2.out, G2.out⟩
end Go.Proofs.YtcmbppjfpdkblaaGreatDoor
/- note: the methods of a reader: an id, and numbers by a closure. -/
namespace Go.Proofs.YtcmbppjfpdkblaaGreatDoor
open Go.RowKit

theorem tv_len (l : List UInt8) (q : Nt.Rs) : (Nt.tv l q).length ≤ l.length := by
  unfold Nt.tv
  split
  · simp
  · rcases Pk.takeText_spec l q.p with h | h
    · exact h.2.2.2.2
    · rw [h.1]; simp

/- what Id answers -/
def IdR (g : Nat) (s : ByteArray) (q : Nt.Rs) (tl : List Value) (w : World) (e : Ending) (w' : World) : Prop :=
  ∃ ad cap, e = .returned (.agg #[.int .i64 (Nt.ivR s.data.toList q), .int .i64 (Nt.ivN s.data.toList q), .slice ad (Nt.ivL s.data.toList q).length cap]) ∧ (Nt.ivL s.data.toList q).length ≤ cap ∧ HopsAt w' ad (Nt.ivL s.data.toList q) ∧ (∀ a, ad = some a → w.heap.size ≤ a.block) ∧
    Pl w' g s ((Nt.is s.data.toList q).p : Int) (Nt.is s.data.toList q).b tl ∧ GB g w w'

set_option maxHeartbeats 4000000 in
set_option maxRecDepth 100000 in
theorem rdId_any (g : Nat) (s : ByteArray) (p : Nat) (b : Bool) (tl : List Value) (w0 w : World) (h : Pl w g s (p : Int) b tl) (hs : s.size ≤ 140737488355328) (he : Env w0) (h0 : Gr w0 w) (hb : w0.heap.size ≤ g) :
    Calls Tryz.prog 71 #[.pointer (some ⟨g, 0, none⟩)] w fun e w' => IdR g s ⟨p, b⟩ tl w e w' := by
  have hsz : s.data.toList.length = s.size := by simp
  have HT : Hid (∀ w', Pl w' g s (p : Int) b tl → Calls Tryz.prog 72 #[.pointer (some ⟨g, 0, none⟩)] w' fun e w2 => e = .returned (.string ⟨(Nt.tv s.data.toList ⟨p, b⟩).toArray⟩) ∧ Pl w2 g s ((Nt.ts s.data.toList ⟨p, b⟩).p : Int) (Nt.ts s.data.toList ⟨p, b⟩).b tl ∧ GB g w' w2) := fun w' h' => plText_any g s p b tl w' h' hs
  have htl := tv_len s.data.toList ⟨p, b⟩
  have HR : Hid (Nt.ivR s.data.toList ⟨p, b⟩ = if parB (Nt.tv s.data.toList ⟨p, b⟩) = true then (readR (Nt.tv s.data.toList ⟨p, b⟩)).1 else 0) := rfl
  have HN : Hid (Nt.ivN s.data.toList ⟨p, b⟩ = if parB (Nt.tv s.data.toList ⟨p, b⟩) = true then (readR (Nt.tv s.data.toList ⟨p, b⟩)).2 else 0) := rfl
  have HL : Hid (Nt.ivL s.data.toList ⟨p, b⟩ = if parB (Nt.tv s.data.toList ⟨p, b⟩) = true then readL (Nt.tv s.data.toList ⟨p, b⟩) else []) := rfl
  have HI : Hid (Nt.is s.data.toList ⟨p, b⟩ = ⟨(Nt.ts s.data.toList ⟨p, b⟩).p, (Nt.ts s.data.toList ⟨p, b⟩).b || !parB (Nt.tv s.data.toList ⟨p, b⟩)⟩) := rfl
  unfold IdR
  generalize Nt.ivR s.data.toList ⟨p, b⟩ = VR at *
  generalize Nt.ivN s.data.toList ⟨p, b⟩ = VN at *
  generalize Nt.ivL s.data.toList ⟨p, b⟩ = VL at *
  generalize Nt.is s.data.toList ⟨p, b⟩ = VI at *
  generalize Nt.tv s.data.toList ⟨p, b⟩ = TV at *
  generalize Nt.ts s.data.toList ⟨p, b⟩ = TS at *
  obtain ⟨tp, tb⟩ := TS
  simp only at HT HI
  have HP : Hid (∀ w', Gr w0 w' → Calls Tryz.prog 85 #[.string ⟨TV.toArray⟩] w' fun e w2 =>
      ((parB TV = true ∧ ∃ ad2 cap2, e = .returned (.tuple #[.agg #[.int .i64 (readR TV).1, .int .i64 (readR TV).2, .slice ad2 (readL TV).length cap2], .int .i64 0]) ∧ (readL TV).length ≤ cap2 ∧ HopsAt w2 ad2 (readL TV) ∧ ∀ a, ad2 = some a → w'.heap.size ≤ a.block) ∨
       (parB TV = false ∧ e = .returned (.tuple #[.agg #[.int .i64 0, .int .i64 0, .slice none 0 0], .int .i64 30]))) ∧ Gr w' w2) := fun w' g' => parse_new ⟨TV.toArray⟩ w' (by simp [ByteArray.size]; omega) (he.gr g')
  have HY : Hid (∀ w', Pl w' g s (tp : Int) tb tl → Calls Tryz.prog 86 #[.pointer (some ⟨g, 0, none⟩)] w' fun e' w2 => e' = .returned (.tuple #[]) ∧ Pl w2 g s (tp : Int) true tl ∧ GB g w' w2) := fun w' h' => stay_any g s _ _ tl w' h'
  have hlt := h.lt
  have HW : Hid (Pl w g s (p : Int) b tl) := h
  have HG0 : Hid (Gr w0 w) := h0
  have hne : g ≠ w.heap.size := by omega
  have hfar : w.heap.size ≠ g := fun e => hne e.symm
  clear h h0 he hsz htl hs
  go_enter Tryz.func71, Tryz.ntmps71
  go_wp2_with fail
  refine (HT.out _ HW.out.alloc).mono ?_
  rintro e1 w1 ⟨rfl, h1, g1⟩
  have H1 : Hid (Pl w1 g s (tp : Int) tb tl) := h1
  have G1 : Hid (GB g w w1) := (GB.refl g w).alloc.trans g1
  have K1 : Hid (Gr w0 w1) := HG0.out.alloc.gb g1 hb
  have R1 : Hid (Cs w1 w.heap.size [.int .i64 0, .int .i64 0, .slice none 0 0]) := g1.cs (Cs.new w [.int .i64 0, .int .i64 0, .slice none 0 0] 24 _ rfl) (fun e => hne e.symm)
  have hw1 : w.heap.size < w1.heap.size := R1.out.lt
  clear h1 g1
  go_wp2_with fail
  refine (HP.out _ K1.out).mono ?_
  rintro e2 w2 ⟨hcase, hg2⟩
  have H2 : Hid (Pl w2 g s (tp : Int) tb tl) := H1.out.gr hg2
  have G2 : Hid (GB g w w2) := G1.out.gr hg2
  have hw2 : w.heap.size < w2.heap.size := Nat.lt_of_lt_of_le hw1 hg2.size
  have r2 := R1.out.gr hg2
  have R2 : Hid (Cs w2 w.heap.size [.int .i64 0, .int .i64 0, .slice none 0 0]) := r2
  have c0 := r2.at_ 0 _ rfl
  have c1 := r2.at_ 1 _ rfl
  have c2 := r2.at_ 2 _ rfl
  have f0 := r2.fz 0 (by simp)
  have f1 := r2.fz 1 (by simp)
  have f2 := r2.fz 2 (by simp)
  clear r2
  rcases hcase with ⟨hp, ad2, cap2, rfl, hcp, hia, hfr⟩ | ⟨hp, rfl⟩
  · rw [if_pos hp] at HR HN HL
    rw [hp, Bool.not_true, Bool.or_false] at HI
    have HF : Hid (∀ a, ad2 = some a → w1.heap.size ≤ a.block) := hfr
    have HH : Hid (HopsAt w2 ad2 (readL TV)) := hia
    have HC : Hid ((readL TV).length ≤ cap2) := hcp
    generalize readL TV = LL at *
    generalize (readR TV).1 = R1v at *
    generalize (readR TV).2 = R2v at *
    clear hfr hia hcp hp HP hg2
    go_wp2
    have hA : ∀ a, ad2 = some a → w.heap.size ≠ a.block := fun a e => by have := HF.out a e; omega
    exact bodyPost_ret (v := .agg #[.int .i64 R1v, .int .i64 R2v, .slice ad2 LL.length cap2]) (by simp [results, Tryz.results71, go_sem, *]) rfl ⟨ad2, cap2, by rw [HR.out, HN.out, HL.out], by rw [HL.out]; exact HC.out, by rw [HL.out]; exact (((HH.out.set _ _ hA).set _ _ hA).set _ _ hA).alloc, fun a e => by have := HF.out a e; omega, by rw [HI.out]; exact (((H2.out.far ⟨w.heap.size, 0, none⟩ _ hfar).far ⟨w.heap.size, 1, none⟩ _ hfar).far ⟨w.heap.size, 2, none⟩ _ hfar).alloc, (((G2.out.setNew ⟨w.heap.size, 0, none⟩ _ (Or.inl (Nat.le_refl w.heap.size))).setNew ⟨w.heap.size, 1, none⟩ _ (Or.inl (Nat.le_refl w.heap.size))).setNew ⟨w.heap.size, 2, none⟩ _ (Or.inl (Nat.le_refl w.heap.size))).alloc⟩
  · rw [if_neg (by simp [hp])] at HR HN HL
    rw [hp, Bool.not_false, Bool.or_true] at HI
    clear hp HP hg2
    go_wp2_with fail
    refine (HY.out _ H2.out.alloc).mono ?_
    rintro e3 w3 ⟨rfl, h3, g3⟩
    have H3 : Hid (Pl w3 g s (tp : Int) true tl) := h3
    have G3 : Hid (GB g w w3) := G2.out.alloc.trans g3
    have r3 := g3.cs R2.out.alloc (fun e => hne e.symm)
    have x3 := g3.cs (Cs.new w2 [.int .i64 0, .int .i64 0, .slice none 0 0] 24 _ rfl) (by have := HW.out.lt; omega)
    have d0 := r3.at_ 0 _ rfl
    have d1 := r3.at_ 1 _ rfl
    have d2 := r3.at_ 2 _ rfl
    have k0 := r3.fz 0 (by simp)
    have k1 := r3.fz 1 (by simp)
    have k2 := r3.fz 2 (by simp)
    have y0 := x3.at_ 0 _ rfl
    have y1 := x3.at_ 1 _ rfl
    have y2 := x3.at_ 2 _ rfl
    have ylt := x3.lt
    have hw3 := r3.lt
    clear h3 g3 r3 x3 c0 c1 c2 f0 f1 f2
    go_wp2
    exact bodyPost_ret (v := .agg #[.int .i64 0, .int .i64 0, .slice none 0 0]) (by simp [results, Tryz.results71, go_sem, *]) rfl ⟨none, 0, by rw [HR.out, HN.out, HL.out]; rfl, by rw [HL.out]; simp, by rw [HL.out]; exact HopsAt.nil, fun a e => (by cases e), by rw [HI.out]; exact ((H3.out.far ⟨w.heap.size, 0, none⟩ _ hfar).far ⟨w.heap.size, 1, none⟩ _ hfar).far ⟨w.heap.size, 2, none⟩ _ hfar, ((G3.out.setNew ⟨w.heap.size, 0, none⟩ _ (Or.inl (Nat.le_refl w.heap.size))).setNew ⟨w.heap.size, 1, none⟩ _ (Or.inl (Nat.le_refl w.heap.size))).setNew ⟨w.heap.size, 2, none⟩ _ (Or.inl (Nat.le_refl w.heap.size))⟩

set_option maxHeartbeats 400000 in
theorem taker_any (g : Nat) (w : World) :
    Calls Tryz.prog 70 #[.pointer (some ⟨g, 0, none⟩)] w fun e w' => e = .returned (.func (.func 83) #[] #[.pointer (some ⟨w.heap.size, 0, none⟩)]) ∧ w' = w.alloc (.cells #[.pointer (some ⟨g, 0, none⟩)] 95) := by
  go_enter Tryz.func70, Tryz.ntmps70
  go_wp2
  go_ret
  exact ⟨rfl, rfl⟩

/- what numbers are taken, and where they are laid -/
def tkF (l : List UInt8) (st : Nt.Rs × List Value) (o : Nat) : Nt.Rs × List Value := (Nt.ns l st.1, st.2.set (o - 3) (.int .i64 (Nt.nv l st.1)))
theorem tkF_len (l : List UInt8) (os : List Nat) : ∀ st, (os.foldl (tkF l) st).2.length = st.2.length := by
  induction os with
  | nil => intro st; rfl
  | cons o os ih => intro st; rw [List.foldl_cons, ih]; simp [tkF]
theorem tk_more (l : List UInt8) (os : List Nat) (st : Nt.Rs × List Value) (k : Nat) (h : k < os.length) : (os.take (k + 1)).foldl (tkF l) st = tkF l ((os.take k).foldl (tkF l) st) os[k] := by
  rw [List.take_succ_eq_append_getElem h, List.foldl_append]; rfl

set_option maxHeartbeats 2000000 in
set_option maxRecDepth 100000 in
theorem takes_any (g fb cb : Nat) (s : ByteArray) (os : List Nat) (st : Nt.Rs × List Value) (w : World) (h : Pl w g s (st.1.p : Int) st.1.b st.2) (hs : s.size ≤ 140737488355328) (hos : ∀ o ∈ os, 3 ≤ o ∧ o < 3 + st.2.length) (hf : ∀ j (hj : j < os.length), w.cell? ⟨fb, j, none⟩ = some (.pointer (some ⟨g, os[j], none⟩))) (hc : w.cell? ⟨cb, 0, none⟩ = some (.pointer (some ⟨g, 0, none⟩))) (hfg : fb ≠ g) (hcg : cb ≠ g) (hn : os.length ≤ 100) :
    Calls Tryz.prog 83 #[.slice (some ⟨fb, 0, none⟩) os.length os.length, .pointer (some ⟨cb, 0, none⟩)] w fun e w' => e = .returned (.tuple #[]) ∧ Pl w' g s ((os.foldl (tkF s.data.toList) st).1.p : Int) (os.foldl (tkF s.data.toList) st).1.b (os.foldl (tkF s.data.toList) st).2 ∧ GB g w w' := by
  have HN : Hid (∀ (q : Nt.Rs) (tl : List Value) (w' : World), Pl w' g s (q.p : Int) q.b tl → Calls Tryz.prog 84 #[.pointer (some ⟨g, 0, none⟩)] w' fun e w2 => e = .returned (.int .i64 (Nt.nv s.data.toList q)) ∧ Pl w2 g s ((Nt.ns s.data.toList q).p : Int) (Nt.ns s.data.toList q).b tl ∧ GB g w' w2) := fun q tl w' h' => plNum_any g s q.p q.b tl w' h' hs
  have HF : Hid (∀ j (hj : j < os.length), w.cell? ⟨fb, j, none⟩ = some (.pointer (some ⟨g, os[j], none⟩))) := hf
  have HC : Hid (w.cell? ⟨cb, 0, none⟩ = some (.pointer (some ⟨g, 0, none⟩))) := hc
  have hcl := World.block_lt_of_cell? w _ hc
  have HO : Hid (∀ o ∈ os, 3 ≤ o ∧ o < 3 + st.2.length) := hos
  have HP : Hid (Pl w g s (st.1.p : Int) st.1.b st.2) := h
  clear hf hc hos h
  go_enter Tryz.func83, Tryz.ntmps83
  go_wp2
  go_loopw [7] (fun i wr => ∃ k : Nat, k ≤ os.length ∧ i = .int .i64 k ∧ Pl wr g s (((os.take k).foldl (tkF s.data.toList) st).1.p : Int) ((os.take k).foldl (tkF s.data.toList) st).1.b ((os.take k).foldl (tkF s.data.toList) st).2 ∧ GB g w wr) (fun i _ => os.length - (intOf i).toNat)
  case atStart => exact ⟨0, by omega, rfl, HP.out, GB.refl _ _⟩
  case round =>
    obtain ⟨k, hk, rfl, hpl, hgb⟩ := hrel
    by_cases hlt : k < os.length
    · have hfk := HF.out k hlt
      have hfl := World.block_lt_of_cell? w _ hfk
      have c1 := hgb.keep hfl hfg hfk
      have c2 := hgb.keep hcl hcg HC.out
      obtain ⟨ho1, ho2⟩ := HO.out os[k] (List.getElem_mem hlt)
      have hlen := tkF_len s.data.toList (os.take k) st
      have HM : Hid ((os.take (k + 1)).foldl (tkF s.data.toList) st = tkF s.data.toList ((os.take k).foldl (tkF s.data.toList) st) os[k]) := tk_more _ _ _ _ hlt
      generalize (os.take k).foldl (tkF s.data.toList) st = sk at *
      generalize os[k] = o at *
      obtain ⟨q, tl⟩ := sk
      simp only at hpl hlen HM
      have HP2 : Hid (Pl wr g s (q.p : Int) q.b tl) := hpl
      have HG : Hid (GB g w wr) := hgb
      have hl3 : o < (.string s :: .int .i64 (q.p : Int) :: .bool q.b :: tl : List Value).length := by simp; omega
      have HE : Hid (tkF s.data.toList (q, tl) o = (Nt.ns s.data.toList q, tl.set (o - 3) (.int .i64 (Nt.nv s.data.toList q)))) := rfl
      clear hpl hgb
      go_wp2_with fail
      refine (HN.out q tl _ HP2.out).mono ?_
      rintro e1 w1 ⟨rfl, h1, g1⟩
      have H1 : Hid (Pl w1 g s ((Nt.ns s.data.toList q).p : Int) (Nt.ns s.data.toList q).b tl) := h1
      have G1 : Hid (GB g w w1) := HG.out.trans g1
      have hl4 : o < (.string s :: .int .i64 ((Nt.ns s.data.toList q).p : Int) :: .bool (Nt.ns s.data.toList q).b :: tl : List Value).length := by simp; omega
      have d0 := h1.at_ o _ (List.getElem?_eq_getElem hl4)
      have k0 := h1.fz o hl4
      have lt1 := h1.lt
      generalize (.string s :: .int .i64 ((Nt.ns s.data.toList q).p : Int) :: .bool (Nt.ns s.data.toList q).b :: tl : List Value)[o] = dv at d0
      clear h1 g1 c1 c2 HP2
      go_wp2
      go_roundw
      case rel =>
        refine ⟨k + 1, by omega, by go_num, ?_, G1.out.setNew _ _ (Or.inr rfl)⟩
        rw [HM.out, HE.out]
        have := H1.out.set o hl4 (.int .i64 (Nt.nv s.data.toList q))
        obtain ⟨o', rfl⟩ : ∃ o', o = o' + 3 := ⟨o - 3, by omega⟩
        exact this
      case measure => simp [intOf]; omega
    · have hkl : k = os.length := by omega
      have e : os.take k = os := by rw [hkl]; exact List.take_length
      rw [e] at hpl
      have HP2 := Lib.hid hpl
      have HG : Hid (GB g w wr) := hgb
      clear hpl hgb e
      go_wp2
      go_end0
      exact ⟨rfl, HP2.out, HG.out⟩
end Go.Proofs.YtcmbppjfpdkblaaGreatDoor
/- note: what a reader reads. -/
namespace Go.Proofs.YtcmbppjfpdkblaaGreatDoor
open Go.RowKit

def fmC (f : Fm) (ad : Option Addr) (cap : Nat) : List Value := [.int .i64 f.f, .int .i64 f.t, .int .i64 f.e, .int .i64 f.s, .int .i64 f.a, .int .i64 f.c, .int .i64 f.n.k, .int .i64 f.n.r, .int .i64 f.n.n, .slice ad f.n.L.length cap, .string f.n.d, .int .i64 f.n.y]
def RdR (g : Nat) (s : ByteArray) (w : World) (e : Ending) (w' : World) : Prop :=
  e = .returned (.tuple #[]) ∧ ∃ ad cap, Pl w' g s ((Nt.rdQ s.data.toList).p : Int) (Nt.rdQ s.data.toList).b (fmC (Nt.rdF s.data.toList) ad cap) ∧ HopsAt w' ad (Nt.rdF s.data.toList).n.L ∧ (Nt.rdF s.data.toList).n.L.length ≤ cap ∧ (∀ a, ad = some a → w.heap.size ≤ a.block) ∧ GB g w w'

set_option maxHeartbeats 4000000 in
set_option maxRecDepth 100000 in
theorem rdRead_any (g : Nat) (s : ByteArray) (w0 w : World) (h : Pl w g s 0 false [.int .i64 0, .int .i64 0, .int .i64 0, .int .i64 0, .int .i64 0, .int .i64 0, .int .i64 0, .int .i64 0, .int .i64 0, .slice none 0 0, .string ⟨#[]⟩, .int .i64 0]) (hs : s.size ≤ 140737488355328) (he : Env w0) (h0 : Gr w0 w) (hb : w0.heap.size ≤ g) :
    Calls Tryz.prog 47 #[.pointer (some ⟨g, 0, none⟩)] w fun e w' => RdR g s w e w' := by
  have hlt := h.lt
  have hgn : w.heap.size ≠ g := by omega
  have HK : Hid (∀ w', Calls Tryz.prog 70 #[.pointer (some ⟨g, 0, none⟩)] w' fun e w2 => e = .returned (.func (.func 83) #[] #[.pointer (some ⟨w'.heap.size, 0, none⟩)]) ∧ w2 = w'.alloc (.cells #[.pointer (some ⟨g, 0, none⟩)] 95)) := fun w' => taker_any g w'
  have HT6 : Hid (∀ (w' : World) (fb cb : Nat), Pl w' g s 0 false [.int .i64 0, .int .i64 0, .int .i64 0, .int .i64 0, .int .i64 0, .int .i64 0, .int .i64 0, .int .i64 0, .int .i64 0, .slice none 0 0, .string ⟨#[]⟩, .int .i64 0] → Cs w' fb [.pointer (some ⟨g, 3, none⟩), .pointer (some ⟨g, 4, none⟩), .pointer (some ⟨g, 5, none⟩), .pointer (some ⟨g, 6, none⟩), .pointer (some ⟨g, 7, none⟩), .pointer (some ⟨g, 8, none⟩)] → Cs w' cb [.pointer (some ⟨g, 0, none⟩)] → fb ≠ g → cb ≠ g →
      Calls Tryz.prog 83 #[.slice (some ⟨fb, 0, none⟩) 6 6, .pointer (some ⟨cb, 0, none⟩)] w' fun e w2 => e = .returned (.tuple #[]) ∧ Pl w2 g s ((Nt.q6 s.data.toList).p : Int) (Nt.q6 s.data.toList).b [.int .i64 (Nt.nv s.data.toList Nt.q0), .int .i64 (Nt.nv s.data.toList (Nt.q1 s.data.toList)), .int .i64 (Nt.nv s.data.toList (Nt.q2 s.data.toList)), .int .i64 (Nt.nv s.data.toList (Nt.q3 s.data.toList)), .int .i64 (Nt.nv s.data.toList (Nt.q4 s.data.toList)), .int .i64 (Nt.nv s.data.toList (Nt.q5 s.data.toList)), .int .i64 0, .int .i64 0, .int .i64 0, .slice none 0 0, .string ⟨#[]⟩, .int .i64 0] ∧ GB g w' w2) := by
    intro w' fb cb h1 h2 h3 h4 h5
    refine takes_any g fb cb s [3, 4, 5, 6, 7, 8] (⟨0, false⟩, [.int .i64 0, .int .i64 0, .int .i64 0, .int .i64 0, .int .i64 0, .int .i64 0, .int .i64 0, .int .i64 0, .int .i64 0, .slice none 0 0, .string ⟨#[]⟩, .int .i64 0]) w' h1 hs (by simp) ?_ (h3.at_ 0 _ rfl) h4 h5 (by simp)
    intro j hj
    match j, hj with
    | 0, _ => exact h2.at_ 0 _ rfl
    | 1, _ => exact h2.at_ 1 _ rfl
    | 2, _ => exact h2.at_ 2 _ rfl
    | 3, _ => exact h2.at_ 3 _ rfl
    | 4, _ => exact h2.at_ 4 _ rfl
    | 5, _ => exact h2.at_ 5 _ rfl
  have HT1 : Hid (∀ (o : Nat) (q : Nt.Rs) (tl : List Value) (w' : World) (fb cb : Nat), 3 ≤ o → o < 3 + tl.length → Pl w' g s (q.p : Int) q.b tl → Cs w' fb [.pointer (some ⟨g, o, none⟩)] → Cs w' cb [.pointer (some ⟨g, 0, none⟩)] → fb ≠ g → cb ≠ g →
      Calls Tryz.prog 83 #[.slice (some ⟨fb, 0, none⟩) 1 1, .pointer (some ⟨cb, 0, none⟩)] w' fun e w2 => e = .returned (.tuple #[]) ∧ Pl w2 g s ((Nt.ns s.data.toList q).p : Int) (Nt.ns s.data.toList q).b (tl.set (o - 3) (.int .i64 (Nt.nv s.data.toList q))) ∧ GB g w' w2) := by
    intro o q tl w' fb cb ho1 ho2 h1 h2 h3 h4 h5
    refine takes_any g fb cb s [o] (q, tl) w' h1 hs (by simpa using ⟨ho1, ho2⟩) ?_ (h3.at_ 0 _ rfl) h4 h5 (by simp)
    intro j hj
    match j, hj with
    | 0, _ => exact h2.at_ 0 _ rfl
  have HX : Hid (∀ (q : Nt.Rs) (tl : List Value) (w' : World), Pl w' g s (q.p : Int) q.b tl → Calls Tryz.prog 72 #[.pointer (some ⟨g, 0, none⟩)] w' fun e w2 => e = .returned (.string ⟨(Nt.tv s.data.toList q).toArray⟩) ∧ Pl w2 g s ((Nt.ts s.data.toList q).p : Int) (Nt.ts s.data.toList q).b tl ∧ GB g w' w2) := fun q tl w' h' => plText_any g s q.p q.b tl w' h' hs
  have HI : Hid (∀ (q : Nt.Rs) (tl : List Value) (w' : World), Gr w0 w' → Pl w' g s (q.p : Int) q.b tl → Calls Tryz.prog 71 #[.pointer (some ⟨g, 0, none⟩)] w' fun e w2 => IdR g s q tl w' e w2) := fun q tl w' g' h' => rdId_any g s q.p q.b tl w0 w' h' hs he g' hb
  have HP : Hid (Pl w g s 0 false [.int .i64 0, .int .i64 0, .int .i64 0, .int .i64 0, .int .i64 0, .int .i64 0, .int .i64 0, .int .i64 0, .int .i64 0, .slice none 0 0, .string ⟨#[]⟩, .int .i64 0]) := h
  have HG0 : Hid (Gr w0 w) := h0
  have HQ : Hid (Nt.rdQ s.data.toList = if Nt.nv s.data.toList (Nt.q3 s.data.toList) = 0 then Nt.q6 s.data.toList else Nt.qz s.data.toList) := rfl
  have HRN : Hid (Nt.rdN s.data.toList = if Nt.nv s.data.toList (Nt.q3 s.data.toList) = 0 then Nt.zeroN else ⟨Nt.nv s.data.toList (Nt.q6 s.data.toList), Nt.ivR s.data.toList (Nt.q7 s.data.toList), Nt.ivN s.data.toList (Nt.q7 s.data.toList), Nt.ivL s.data.toList (Nt.q7 s.data.toList), ⟨(Nt.tv s.data.toList (Nt.q8 s.data.toList)).toArray⟩, Nt.nv s.data.toList (Nt.q9 s.data.toList)⟩) := rfl
  have HRF : Hid (Nt.rdF s.data.toList = ⟨Nt.nv s.data.toList Nt.q0, Nt.nv s.data.toList (Nt.q1 s.data.toList), Nt.nv s.data.toList (Nt.q2 s.data.toList), Nt.nv s.data.toList (Nt.q3 s.data.toList), Nt.nv s.data.toList (Nt.q4 s.data.toList), Nt.nv s.data.toList (Nt.q5 s.data.toList), Nt.rdN s.data.toList⟩) := rfl
  generalize Nt.nv s.data.toList Nt.q0 = v0 at *
  generalize Nt.nv s.data.toList (Nt.q1 s.data.toList) = v1 at *
  generalize Nt.nv s.data.toList (Nt.q2 s.data.toList) = v2 at *
  generalize Nt.nv s.data.toList (Nt.q3 s.data.toList) = v3 at *
  generalize Nt.nv s.data.toList (Nt.q4 s.data.toList) = v4 at *
  generalize Nt.nv s.data.toList (Nt.q5 s.data.toList) = v5 at *
  clear h h0 he hs
  go_enter Tryz.func47, Tryz.ntmps47
  go_wp2_with fail
  refine (HK.out _).mono ?_
  rintro e1 w1 ⟨rfl, hw1⟩
  have H1 : Hid (Pl w1 g s 0 false [.int .i64 0, .int .i64 0, .int .i64 0, .int .i64 0, .int .i64 0, .int .i64 0, .int .i64 0, .int .i64 0, .int .i64 0, .slice none 0 0, .string ⟨#[]⟩, .int .i64 0]) := by rw [hw1]; exact HP.out.alloc
  have C1 : Hid (Cs w1 w.heap.size [.pointer (some ⟨g, 0, none⟩)]) := by rw [hw1]; exact Cs.new w _ _ _ rfl
  have hg1 : Gr w w1 := by rw [hw1]; exact (Gr.refl _).alloc
  have hlt1 : g < w1.heap.size := H1.out.lt
  clear hw1
  go_wp2
  go_region_held3 (fun _ => True) (trivial)
    ((go_at_call 83; refine (HT6.out _ _ _ ?_ ?_ ?_ ?_ hgn).mono ?_; exact H1.out.gr (by repeat (first | exact Gr.refl _ | refine Gr.alloc ?_ | refine Gr.drew ?_ | refine Gr.trans ?_ (by assumption))); first | exact Cs.new _ _ _ _ rfl | exact (Cs.new _ _ _ _ rfl).drew; exact C1.out.gr (by repeat (first | exact Gr.refl _ | refine Gr.alloc ?_ | refine Gr.drew ?_ | refine Gr.trans ?_ (by assumption))); (simp; omega); rintro e2 w2 ⟨rfl, h2, g2⟩))
  have G2 : Hid (GB g w w2) := (GB.ofGr (hg1.trans (by repeat (first | exact Gr.refl _ | refine Gr.alloc ?_ | refine Gr.drew ?_ | refine Gr.trans ?_ (by assumption))))).trans g2
  have K2 : Hid (Gr w0 w2) := Gr.gb ((HG0.out.trans hg1).trans (by repeat (first | exact Gr.refl _ | refine Gr.alloc ?_ | refine Gr.drew ?_ | refine Gr.trans ?_ (by assumption)))) g2 hb
  have C2 : Hid (Cs w2 w.heap.size [.pointer (some ⟨g, 0, none⟩)]) := g2.cs (C1.out.gr (by repeat (first | exact Gr.refl _ | refine Gr.alloc ?_ | refine Gr.drew ?_ | refine Gr.trans ?_ (by assumption)))) hgn
  have H2 := Lib.hid h2
  have c6 := h2.at_ 6 _ rfl
  have hlt2 := h2.lt
  have hw2 : w.heap.size ≤ w2.heap.size := G2.out.size
  clear h2 g2 H1 C1 HT6 HK HP hg1 hlt1
  by_cases hz : v3 = 0
  · subst hz
    rw [if_pos rfl] at HQ HRN
    go_wp2
    refine bodyPost_ret (v := .tuple #[]) (results_none Tryz.results47 _ _ _) rfl ?_
    refine ⟨rfl, none, 0, ?_, ?_, ?_, fun a e => (by cases e), G2.out⟩
    · rw [HQ.out, HRF.out, HRN.out]; exact H2.out
    · rw [HRF.out, HRN.out]; exact HopsAt.nil
    · rw [HRF.out, HRN.out]; exact Nat.le_refl _
  · rw [if_neg hz] at HQ HRN
    have hz' : (v3 == 0) = false := by simpa using hz
    go_wp2_with fail
    refine (HT1.out 9 (Nt.q6 s.data.toList) [.int .i64 v0, .int .i64 v1, .int .i64 v2, .int .i64 v3, .int .i64 v4, .int .i64 v5, .int .i64 0, .int .i64 0, .int .i64 0, .slice none 0 0, .string ⟨#[]⟩, .int .i64 0] _ _ _ (by omega) (by simp) ?_ ?_ ?_ ?_ hgn).mono ?_
    · exact H2.out.alloc
    · exact Cs.new _ _ _ _ rfl
    · exact C2.out.alloc
    · omega
    rintro e3 w3 ⟨rfl, h3, g3⟩
    have h3 : Pl w3 g s ((Nt.q7 s.data.toList).p : Int) (Nt.q7 s.data.toList).b [.int .i64 v0, .int .i64 v1, .int .i64 v2, .int .i64 v3, .int .i64 v4, .int .i64 v5, .int .i64 (Nt.nv s.data.toList (Nt.q6 s.data.toList)), .int .i64 0, .int .i64 0, .slice none 0 0, .string ⟨#[]⟩, .int .i64 0] := h3
    have H3 := Lib.hid h3
    have G3 : Hid (GB g w w3) := G2.out.alloc.trans g3
    have K3 : Hid (Gr w0 w3) := K2.out.alloc.gb g3 hb
    have C3 : Hid (Cs w3 w.heap.size [.pointer (some ⟨g, 0, none⟩)]) := g3.cs C2.out.alloc hgn
    have hw3 : w.heap.size ≤ w3.heap.size := G3.out.size
    generalize Nt.nv s.data.toList (Nt.q6 s.data.toList) = v6 at *
    clear h3 g3 H2 G2 C2 K2 c6 hw2 hlt2
    go_wp2_with fail
    refine (HI.out (Nt.q7 s.data.toList) _ _ K3.out H3.out).mono ?_
    rintro e4 w4 ⟨ad, cap, rfl, hcp, hia, hfr, h4, g4⟩
    have h4 : Pl w4 g s ((Nt.q8 s.data.toList).p : Int) (Nt.q8 s.data.toList).b [.int .i64 v0, .int .i64 v1, .int .i64 v2, .int .i64 v3, .int .i64 v4, .int .i64 v5, .int .i64 v6, .int .i64 0, .int .i64 0, .slice none 0 0, .string ⟨#[]⟩, .int .i64 0] := h4
    have HCP := Lib.hid hcp
    have HIA := Lib.hid hia
    have HFR := Lib.hid hfr
    have H4 := Lib.hid h4
    have G4 : Hid (GB g w w4) := G3.out.trans g4
    have C4 : Hid (Cs w4 w.heap.size [.pointer (some ⟨g, 0, none⟩)]) := g4.cs C3.out hgn
    have k10 := h4.fz 10 (by simp)
    have k11 := h4.fz 11 (by simp)
    have k12 := h4.fz 12 (by simp)
    have c10 := h4.at_ 10 _ rfl
    have c11 := h4.at_ 11 _ rfl
    have c12 := h4.at_ 12 _ rfl
    have hlt4 := h4.lt
    generalize Nt.ivR s.data.toList (Nt.q7 s.data.toList) = vr at *
    generalize Nt.ivN s.data.toList (Nt.q7 s.data.toList) = vn at *
    generalize Nt.ivL s.data.toList (Nt.q7 s.data.toList) = vL at *
    clear h4 g4 hcp hia hfr H3 G3 C3 K3 HI
    go_wp2_with fail
    refine (HX.out (Nt.q8 s.data.toList) [.int .i64 v0, .int .i64 v1, .int .i64 v2, .int .i64 v3, .int .i64 v4, .int .i64 v5, .int .i64 v6, .int .i64 vr, .int .i64 vn, .slice ad vL.length cap, .string ⟨#[]⟩, .int .i64 0] _ ?_).mono ?_
    · exact ((H4.out.set 10 (by simp) _).set 11 (by simp) _).set 12 (by simp) _
    rintro e5 w5 ⟨rfl, h5, g5⟩
    have h5 : Pl w5 g s ((Nt.q9 s.data.toList).p : Int) (Nt.q9 s.data.toList).b [.int .i64 v0, .int .i64 v1, .int .i64 v2, .int .i64 v3, .int .i64 v4, .int .i64 v5, .int .i64 v6, .int .i64 vr, .int .i64 vn, .slice ad vL.length cap, .string ⟨#[]⟩, .int .i64 0] := h5
    have H5 := Lib.hid h5
    have g5' := (((GB.refl g w4).setNew ⟨g, 10, none⟩ (.int .i64 vr) (Or.inr rfl)).setNew ⟨g, 11, none⟩ (.int .i64 vn) (Or.inr rfl)).setNew ⟨g, 12, none⟩ (.slice ad vL.length cap) (Or.inr rfl) |>.trans g5
    have G5 : Hid (GB g w w5) := G4.out.trans g5'
    have C5 : Hid (Cs w5 w.heap.size [.pointer (some ⟨g, 0, none⟩)]) := g5'.cs C4.out hgn
    have hAg : ∀ a, ad = some a → a.block ≠ g := fun a e => by have := HFR.out a e; omega
    have I5 : Hid (HopsAt w5 ad vL) := g5'.hops HIA.out hAg
    have hw5 : w.heap.size ≤ w5.heap.size := G5.out.size
    have k13 := h5.fz 13 (by simp)
    have c13 := h5.at_ 13 _ rfl
    have hlt5 := h5.lt
    generalize Nt.tv s.data.toList (Nt.q8 s.data.toList) = vt at *
    clear h5 g5 g5' H4 G4 C4 HIA k10 k11 k12 c10 c11 c12 hlt4 HX
    go_wp2_with fail
    refine (HT1.out 14 (Nt.q9 s.data.toList) [.int .i64 v0, .int .i64 v1, .int .i64 v2, .int .i64 v3, .int .i64 v4, .int .i64 v5, .int .i64 v6, .int .i64 vr, .int .i64 vn, .slice ad vL.length cap, .string ⟨vt.toArray⟩, .int .i64 0] _ _ _ (by omega) (by simp) ?_ ?_ ?_ ?_ hgn).mono ?_
    · exact (H5.out.set 13 (by simp) _).alloc
    · exact Cs.new _ _ _ _ (by simp)
    · exact (C5.out.far ⟨g, 13, none⟩ _ hgn.symm).alloc
    · omega
    rintro e6 w6 ⟨rfl, h6, g6⟩
    have h6 : Pl w6 g s ((Nt.qz s.data.toList).p : Int) (Nt.qz s.data.toList).b [.int .i64 v0, .int .i64 v1, .int .i64 v2, .int .i64 v3, .int .i64 v4, .int .i64 v5, .int .i64 v6, .int .i64 vr, .int .i64 vn, .slice ad vL.length cap, .string ⟨vt.toArray⟩, .int .i64 (Nt.nv s.data.toList (Nt.q9 s.data.toList))] := h6
    have H6 := Lib.hid h6
    have g6' := ((GB.refl g w5).setNew ⟨g, 13, none⟩ (.string ⟨vt.toArray⟩) (Or.inr rfl)).alloc.trans g6
    have G6 : Hid (GB g w w6) := G5.out.trans g6'
    have I6 : Hid (HopsAt w6 ad vL) := g6'.hops I5.out hAg
    have hw36 : w.heap.size ≤ w3.heap.size := hw3
    clear h6 g6 g6'
    go_wp2
    go_end0
    refine ⟨rfl, ad, cap, ?_, ?_, ?_, fun a e => by have := HFR.out a e; omega, G6.out⟩
    · rw [HQ.out, HRF.out, HRN.out]; exact H6.out
    · rw [HRF.out, HRN.out]; exact I6.out
    · rw [HRF.out, HRN.out]; exact HCP.out
end Go.Proofs.YtcmbppjfpdkblaaGreatDoor
