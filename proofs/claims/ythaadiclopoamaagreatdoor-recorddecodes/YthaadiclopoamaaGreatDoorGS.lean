/- Parts of these proofs, laid together. -/
import Derived.Test.YthaadiclopoamaaGreatDoorGQ
import Derived.Test.YthaadiclopoamaaGreatDoorGR
import Derived.Test.YthaadiclopoamaaGreatDoorGM
import Derived.Test.YthaadiclopoamaaGreatDoorGN
import Derived.BigQuiet
import Derived.Deep.QuietTactic
import Derived.Deep.RegionHeld3
/- record: a reader's methods. -/
set_option maxRecDepth 100000
set_option maxHeartbeats 8000000
namespace Go.Proofs.YthaadiclopoamaaGreatDoor
open Go.RowKit
open Df (Stp)

/- a reader in memory -/
abbrev Rdr (w : World) (g : Nat) (s : ByteArray) (p : Int) : Prop := Cs w g [.string s, .int .i64 p]

theorem rpass_any (g : Nat) (s : ByteArray) (p t e : Nat) (w : World) (h : Rdr w g s (p : Int)) :
  Calls Tryz.prog 92 #[.pointer (some ⟨g, 0, none⟩), .int .i64 (t : Int), .int .i64 (e : Int)] w fun e' w' => e' = .returned (.tuple #[]) /\ Rdr w' g s ((if e = 0 then t else p : Nat) : Int) /\ GB g w w' := by
 have HP : Hid (Rdr w g s (p : Int)) := h
 have c1 := h.at_ 1 _ rfl
 have f1 := h.fz 1 (by simp)
 have lt := h.lt
 clear h
 by_cases he : e = 0
 ·subst he
  rw [if_pos rfl]
  go_enter Tryz.func92, Tryz.ntmps92
  go_wp2
  go_end0
  exact ⟨rfl, HP.out.set 1 (by simp) _, GB.setNew (GB.refl g w) _ _ (Or.inr rfl)⟩
 ·rw [if_neg he]
  have he' : ((e : Int) == 0) = false := by simpa using (show ¬ (e : Int) = 0 by omega)
  go_enter Tryz.func92, Tryz.ntmps92
  go_wp2
  go_end0
  exact ⟨rfl, HP.out, GB.refl _ _⟩


theorem rnum_any (g : Nat) (s : ByteArray) (p : Nat) (w : World) (h : Rdr w g s (p : Int)) (hs : s.size <= 140737488355328) :
  Calls Tryz.prog 69 #[.pointer (some ⟨g, 0, none⟩)] w fun e w' => e = .returned (.int .i64 (Rc.nv s.data.toList p)) /\ Rdr w' g s ((Rc.np s.data.toList p : Nat) : Int) /\ GB g w w' := by
 have HP : Hid (Rdr w g s (p : Int)) := h
 have c0 := h.at_ 0 _ rfl
 have c1 := h.at_ 1 _ rfl
 have lt := h.lt
 have HT : Hid (∀ w' : World, Calls Tryz.prog 91 #[.string s, .int .i64 (p : Int)] w' fun e w2 => e = .returned (.tuple #[.int .u64 (Pk.takeNum s.data.toList p).1, .int .i64 (Pk.takeNum s.data.toList p).2.1, .int .i64 (Pk.takeNum s.data.toList p).2.2]) /\ Gr w' w2) := fun w' => (takeNumber_any s p w' hs).mono fun _ _ h => ⟨h.1, by rw [h.2]; exact Gr.refl _⟩
 unfold Rc.nv Rc.np
 generalize (Pk.takeNum s.data.toList p).1 = v at *
 generalize (Pk.takeNum s.data.toList p).2.1 = t at *
 generalize (Pk.takeNum s.data.toList p).2.2 = e at *
 have HA : Hid (∀ w', Rdr w' g s (p : Int) -> Calls Tryz.prog 92 #[.pointer (some ⟨g, 0, none⟩), .int .i64 (t : Int), .int .i64 (e : Int)] w' fun e' w2 => e' = .returned (.tuple #[]) /\ Rdr w2 g s ((if e = 0 then t else p : Nat) : Int) /\ GB g w' w2) := fun w' h' => rpass_any g s p t e w' h'
 generalize (if e = 0 then t else p : Nat) = t2 at *
 generalize hv2 : IntKind.i64.wrap (v : Int) = v2 at *
 clear h hs
 go_enter Tryz.func69, Tryz.ntmps69
 go_wp2
 go_region_held3 (fun w' => Gr w w' /\ w'.cell? ⟨g, 0, none⟩ = some (.string s) /\ w'.cell? ⟨g, 1, none⟩ = some (.int .i64 (p : Int)))
  ((go_split_ands; exact ⟨(by repeat(first|exact Gr.r _|refine Gr.a ?_|refine Gr.d ?_|refine Gr.t ?_ (by assumption))), Gr.keep (W := w) (by repeat(first|exact Gr.r _|refine Gr.a ?_|refine Gr.d ?_|refine Gr.t ?_ (by assumption))) c0, Gr.keep (W := w) (by repeat(first|exact Gr.r _|refine Gr.a ?_|refine Gr.d ?_|refine Gr.t ?_ (by assumption))) c1⟩))
  ((go_at_call 91; refine (HT.out _).mono ?_; rintro e' w0 ⟨rfl, hg0⟩; go_split_ands))
 all_goals
  go_wp2_with fail
  refine (HA.out _ ?_).mono ?_
  ·exact HP.out.gr (by repeat(first|exact Gr.r _|refine Gr.a ?_|refine Gr.d ?_|refine Gr.t ?_ (by assumption)))
  rintro e1 w1 ⟨rfl, h1, g1⟩
  have H1 : Hid (Rdr w1 g s (t2 : Int)) := h1
  have G1 : Hid (GB g w w1) := GB.trans (GB.ofGr (by repeat(first|exact Gr.r _|refine Gr.a ?_|refine Gr.d ?_|refine Gr.t ?_ (by assumption)))) g1
  clear h1 g1
  go_wp2
  go_ret
  exact ⟨rfl, H1.out, G1.out⟩


theorem ramt_any (g : Nat) (s : ByteArray) (p : Nat) (w : World) (h : Rdr w g s (p : Int)) (hs : s.size <= 140737488355328) :
  Calls Tryz.prog 72 #[.pointer (some ⟨g, 0, none⟩)] w fun e w' => e = .returned (.int .i64 (Rc.av s.data.toList p)) /\ Rdr w' g s ((Rc.np s.data.toList p : Nat) : Int) /\ GB g w w' := by
 have HP : Hid (Rdr w g s (p : Int)) := h
 have c0 := h.at_ 0 _ rfl
 have c1 := h.at_ 1 _ rfl
 have lt := h.lt
 have HT : Hid (∀ w' : World, Calls Tryz.prog 95 #[.string s, .int .i64 (p : Int)] w' fun e w2 => e = .returned (.tuple #[.int .i64 (Pk.unsg (Pk.takeNum s.data.toList p).1), .int .i64 (Pk.takeNum s.data.toList p).2.1, .int .i64 (Pk.takeNum s.data.toList p).2.2]) /\ Gr w' w2) := fun w' => (takeSigned_any s p w' hs).mono fun _ _ h => ⟨h.1, by rw [h.2]; exact Gr.refl _⟩
 unfold Rc.av Rc.np
 generalize (Pk.takeNum s.data.toList p).1 = v at *
 generalize (Pk.takeNum s.data.toList p).2.1 = t at *
 generalize (Pk.takeNum s.data.toList p).2.2 = e at *
 have HA : Hid (∀ w', Rdr w' g s (p : Int) -> Calls Tryz.prog 92 #[.pointer (some ⟨g, 0, none⟩), .int .i64 (t : Int), .int .i64 (e : Int)] w' fun e' w2 => e' = .returned (.tuple #[]) /\ Rdr w2 g s ((if e = 0 then t else p : Nat) : Int) /\ GB g w' w2) := fun w' h' => rpass_any g s p t e w' h'
 generalize (if e = 0 then t else p : Nat) = t2 at *
 generalize Pk.unsg v = v2 at *
 clear h hs
 go_enter Tryz.func72, Tryz.ntmps72
 go_wp2
 go_region_held3 (fun w' => Gr w w' /\ w'.cell? ⟨g, 0, none⟩ = some (.string s) /\ w'.cell? ⟨g, 1, none⟩ = some (.int .i64 (p : Int)))
  ((go_split_ands; exact ⟨(by repeat(first|exact Gr.r _|refine Gr.a ?_|refine Gr.d ?_|refine Gr.t ?_ (by assumption))), Gr.keep (W := w) (by repeat(first|exact Gr.r _|refine Gr.a ?_|refine Gr.d ?_|refine Gr.t ?_ (by assumption))) c0, Gr.keep (W := w) (by repeat(first|exact Gr.r _|refine Gr.a ?_|refine Gr.d ?_|refine Gr.t ?_ (by assumption))) c1⟩))
  ((go_at_call 95; refine (HT.out _).mono ?_; rintro e' w0 ⟨rfl, hg0⟩; go_split_ands))
 all_goals
  go_wp2_with fail
  refine (HA.out _ ?_).mono ?_
  ·exact HP.out.gr (by repeat(first|exact Gr.r _|refine Gr.a ?_|refine Gr.d ?_|refine Gr.t ?_ (by assumption)))
  rintro e1 w1 ⟨rfl, h1, g1⟩
  have H1 : Hid (Rdr w1 g s (t2 : Int)) := h1
  have G1 : Hid (GB g w w1) := GB.trans (GB.ofGr (by repeat(first|exact Gr.r _|refine Gr.a ?_|refine Gr.d ?_|refine Gr.t ?_ (by assumption)))) g1
  clear h1 g1
  go_wp2
  go_ret
  exact ⟨rfl, H1.out, G1.out⟩


theorem rtxt_any (g : Nat) (s : ByteArray) (p : Nat) (w : World) (h : Rdr w g s (p : Int)) (hs : s.size <= 140737488355328) :
  Calls Tryz.prog 71 #[.pointer (some ⟨g, 0, none⟩)] w fun e w' => e = .returned (.string ⟨(Rc.tv s.data.toList p).toArray⟩) /\ Rdr w' g s ((Rc.tp s.data.toList p : Nat) : Int) /\ GB g w w' := by
 have HP : Hid (Rdr w g s (p : Int)) := h
 have c0 := h.at_ 0 _ rfl
 have c1 := h.at_ 1 _ rfl
 have lt := h.lt
 have HT : Hid (∀ w' : World, Calls Tryz.prog 94 #[.string s, .int .i64 (p : Int)] w' fun e w2 => e = .returned (.tuple #[.string ⟨(Pk.takeText s.data.toList p).1.toArray⟩, .int .i64 (Pk.takeText s.data.toList p).2.1, .int .i64 (Pk.takeText s.data.toList p).2.2]) /\ Gr w' w2) := fun w' => takeText_any s p w' hs
 unfold Rc.tv Rc.tp
 generalize (Pk.takeText s.data.toList p).1 = v at *
 generalize (Pk.takeText s.data.toList p).2.1 = t at *
 generalize (Pk.takeText s.data.toList p).2.2 = e at *
 have HA : Hid (∀ w', Rdr w' g s (p : Int) -> Calls Tryz.prog 92 #[.pointer (some ⟨g, 0, none⟩), .int .i64 (t : Int), .int .i64 (e : Int)] w' fun e' w2 => e' = .returned (.tuple #[]) /\ Rdr w2 g s ((if e = 0 then t else p : Nat) : Int) /\ GB g w' w2) := fun w' h' => rpass_any g s p t e w' h'
 generalize (if e = 0 then t else p : Nat) = t2 at *
 
 clear h hs
 go_enter Tryz.func71, Tryz.ntmps71
 go_wp2
 go_region_held3 (fun w' => Gr w w' /\ w'.cell? ⟨g, 0, none⟩ = some (.string s) /\ w'.cell? ⟨g, 1, none⟩ = some (.int .i64 (p : Int)))
  ((go_split_ands; exact ⟨(by repeat(first|exact Gr.r _|refine Gr.a ?_|refine Gr.d ?_|refine Gr.t ?_ (by assumption))), Gr.keep (W := w) (by repeat(first|exact Gr.r _|refine Gr.a ?_|refine Gr.d ?_|refine Gr.t ?_ (by assumption))) c0, Gr.keep (W := w) (by repeat(first|exact Gr.r _|refine Gr.a ?_|refine Gr.d ?_|refine Gr.t ?_ (by assumption))) c1⟩))
  ((go_at_call 94; refine (HT.out _).mono ?_; rintro e' w0 ⟨rfl, hg0⟩; go_split_ands))
 all_goals
  go_wp2_with fail
  refine (HA.out _ ?_).mono ?_
  ·exact HP.out.gr (by repeat(first|exact Gr.r _|refine Gr.a ?_|refine Gr.d ?_|refine Gr.t ?_ (by assumption)))
  rintro e1 w1 ⟨rfl, h1, g1⟩
  have H1 : Hid (Rdr w1 g s (t2 : Int)) := h1
  have G1 : Hid (GB g w w1) := GB.trans (GB.ofGr (by repeat(first|exact Gr.r _|refine Gr.a ?_|refine Gr.d ?_|refine Gr.t ?_ (by assumption)))) g1
  clear h1 g1
  go_wp2
  go_ret
  exact ⟨rfl, H1.out, G1.out⟩


theorem tvr_len (l : List UInt8) (p : Nat) : (Rc.tv l p).length <= l.length := by
 unfold Rc.tv
 rcases Pk.takeText_spec l p with h | h
 ·exact h.2.2.2.2
 ·rw [h.1]; simp

/- what Id answers -/
def RidR (g : Nat) (s : ByteArray) (p : Nat) (w : World) (e : Ending) (w' : World) : Prop :=
 ∃ ad cap, e = .returned (.agg #[.int .i64 (Rc.ivR (Rc.tv s.data.toList p)), .int .i64 (Rc.ivN (Rc.tv s.data.toList p)), .slice ad (Rc.ivL (Rc.tv s.data.toList p)).length cap]) /\ HopsAt w' ad (Rc.ivL (Rc.tv s.data.toList p)) /\ (∀ a, ad = some a -> w.heap.size < a.block) /\ Rdr w' g s (Rc.tp s.data.toList p : Nat) /\ GB g w w'

theorem rid_any (g : Nat) (s : ByteArray) (p : Nat) (w0 w : World) (h : Rdr w g s (p : Int)) (hs : s.size <= 140737488355328) (he : Env w0) (h0 : Gr w0 w) (hb : w0.heap.size <= g) :
  Calls Tryz.prog 93 #[.pointer (some ⟨g, 0, none⟩)] w fun e w' => RidR g s p w e w' := by
 have hsz : s.data.toList.length = s.size := by simp
 have HT : Hid (∀ w', Rdr w' g s (p : Int) -> Calls Tryz.prog 71 #[.pointer (some ⟨g, 0, none⟩)] w' fun e w2 => e = .returned (.string ⟨(Rc.tv s.data.toList p).toArray⟩) /\ Rdr w2 g s (Rc.tp s.data.toList p : Nat) /\ GB g w' w2) := fun w' h' => rtxt_any g s p w' h' hs
 have htl := tvr_len s.data.toList p
 unfold RidR
 generalize Rc.tv s.data.toList p = TV at *
 generalize Rc.tp s.data.toList p = tp at *
 have HP : Hid (∀ w', Gr w0 w' -> Calls Tryz.prog 113 #[.string ⟨TV.toArray⟩] w' fun e w2 =>
   ((parB TV = true /\ ∃ ad2 cap2, e = .returned (.tuple #[.agg #[.int .i64 (readR TV).1, .int .i64 (readR TV).2, .slice ad2 (readL TV).length cap2], .int .i64 0]) /\ (readL TV).length <= cap2 /\ HopsAt w2 ad2 (readL TV) /\ ∀ a, ad2 = some a -> w'.heap.size <= a.block) ∨
   (parB TV = false /\ e = .returned (.tuple #[.agg #[.int .i64 0, .int .i64 0, .slice none 0 0], .int .i64 30]))) /\ Gr w' w2) := fun w' g' => parse_new ⟨TV.toArray⟩ w' (by simp [ByteArray.size]; omega) (he.gr g')
 have HR : Hid (Rc.ivR TV = if parB TV = true then (readR TV).1 else 0) := rfl
 have HN : Hid (Rc.ivN TV = if parB TV = true then (readR TV).2 else 0) := rfl
 have HL : Hid (Rc.ivL TV = if parB TV = true then readL TV else []) := rfl
 generalize Rc.ivR TV = VR at *
 generalize Rc.ivN TV = VN at *
 generalize Rc.ivL TV = VL at *
 have hlt := h.lt
 have HW : Hid (Rdr w g s (p : Int)) := h
 have HG0 : Hid (Gr w0 w) := h0
 have hne : w.heap.size ≠ g := by omega
 clear h h0 he hsz htl hs
 go_enter Tryz.func93, Tryz.ntmps93
 go_wp2_with fail
 refine (HT.out _ HW.out.alloc).mono ?_
 rintro e1 w1 ⟨rfl, h1, g1⟩
 have G1 : Hid (GB g w w1) := (GB.refl g w).alloc.trans g1
 have K1 : Hid (Gr w0 w1) := HG0.out.alloc.gb g1 hb
 have R1 : Hid (Cs w1 w.heap.size [.int .i64 0, .int .i64 0, .slice none 0 0]) := g1.cs (Cs.new w [.int .i64 0, .int .i64 0, .slice none 0 0] 24 _ rfl) hne
 have hw1 : w.heap.size < w1.heap.size := R1.out.lt
 have H1 := Lib.hid h1
 clear h1 g1
 go_wp2_with fail
 refine (HP.out _ K1.out).mono ?_
 rintro e2 w2 ⟨hcase, hg2⟩
 have H2 := Lib.hid (H1.out.gr hg2)
 have G2 : Hid (GB g w w2) := G1.out.gr hg2
 have hw2 : w.heap.size < w2.heap.size := Nat.lt_of_lt_of_le hw1 hg2.size
 have hlt2 : g < w2.heap.size := H2.out.lt
 have R2 := Lib.hid (R1.out.gr hg2)
 have hnn : w2.heap.size ≠ w.heap.size := by omega
 have hnb : w.heap.size ≠ w2.heap.size := by omega
 rcases hcase with ⟨hp, ad2, cap2, rfl, hcp, hia, hfr⟩ | ⟨hp, rfl⟩
 ·rw [if_pos hp] at HR HN HL
  have HF : Hid (∀ a, ad2 = some a -> w1.heap.size <= a.block) := hfr
  have HH := Lib.hid hia
  generalize readL TV = LL at *
  generalize (readR TV).1 = R1v at *
  generalize (readR TV).2 = R2v at *
  clear hfr hia hcp hp HP hg2
  have r2 := R2.out
  obtain ⟨c0, c1, c2, cf0, cf1, cf2, clt⟩ := r2.d3
  clear r2
  go_wp2
  exact bodyPost_ret (v := .agg #[.int .i64 R1v, .int .i64 R2v, .slice ad2 LL.length cap2]) (by simp [results, Tryz.results93, go_sem, *]) rfl (by
   refine ⟨ad2, cap2, by rw [HR.out, HN.out, HL.out], ?_, fun a e => by have := HF.out a e; omega, ?_, ?_⟩
   ·rw [HL.out]; exact (HH.out.far3 w.heap.size (fun a e => by have := HF.out a e; omega) _ _ _).alloc
   ·exact (H2.out.far3 w.heap.size hne _ _ _).alloc
   ·exact (((G2.out.setNew _ _ (Or.inl (Nat.le_refl _))).setNew _ _ (Or.inl (Nat.le_refl _))).setNew _ _ (Or.inl (Nat.le_refl _))).alloc)
 ·rw [if_neg (by simp [hp])] at HR HN HL
  clear hp HP hg2
  have r2 := R2.out
  obtain ⟨c0, c1, c2, cf0, cf1, cf2, clt⟩ := r2.d3
  clear r2
  go_wp2
  exact bodyPost_ret (v := .agg #[.int .i64 0, .int .i64 0, .slice none 0 0]) (by simp [results, Tryz.results93, go_sem, *]) rfl (by
   refine ⟨none, 0, by rw [HR.out, HN.out, HL.out]; rfl, by rw [HL.out]; exact HopsAt.nil, fun a e => (by cases e), ?_, ?_⟩
   ·exact (H2.out.far3 w.heap.size hne _ _ _).alloc
   ·exact (((G2.out.setNew _ _ (Or.inl (Nat.le_refl _))).setNew _ _ (Or.inl (Nat.le_refl _))).setNew _ _ (Or.inl (Nat.le_refl _))).alloc)

/- what Def answers -/
def RdfR (g : Nat) (s : ByteArray) (p : Nat) (w : World) (e : Ending) (w' : World) : Prop :=
 ∃ ad cap, e = .returned (.agg #[.string (tN (Rc.tv s.data.toList p)), .slice ad (tL (Rc.tv s.data.toList p)).length cap]) /\ StpsAt w' ad (tL (Rc.tv s.data.toList p)) /\ (∀ a, ad = some a -> w.heap.size < a.block) /\ Rdr w' g s (Rc.tp s.data.toList p : Nat) /\ GB g w w'
theorem StpsAt.lt {w : World} {ad : Option Addr} {L : List Stp} (h : StpsAt w ad L) : ∀ a, ad = some a -> a.block < w.heap.size ∨ L = [] := by
 intro a e
 cases L with
 | nil => exact Or.inr rfl
 | cons z zs =>
  obtain ⟨b, off, e', hbl, _⟩ := h 0 _ rfl
  rw [e] at e'; cases e'
  exact Or.inl hbl

theorem rdf_any (g : Nat) (s : ByteArray) (p : Nat) (w : World) (h : Rdr w g s (p : Int)) (hs : s.size <= 140737488355328) :
  Calls Tryz.prog 73 #[.pointer (some ⟨g, 0, none⟩)] w fun e w' => RdfR g s p w e w' := by
 have hsz : s.data.toList.length = s.size := by simp
 have HT : Hid (∀ w', Rdr w' g s (p : Int) -> Calls Tryz.prog 71 #[.pointer (some ⟨g, 0, none⟩)] w' fun e w2 => e = .returned (.string ⟨(Rc.tv s.data.toList p).toArray⟩) /\ Rdr w2 g s (Rc.tp s.data.toList p : Nat) /\ GB g w' w2) := fun w' h' => rtxt_any g s p w' h' hs
 have htl := tvr_len s.data.toList p
 unfold RdfR
 generalize Rc.tv s.data.toList p = TV at *
 generalize Rc.tp s.data.toList p = tp at *
 have HP : Hid (∀ w' : World, Calls Tryz.prog 96 #[.string ⟨TV.toArray⟩] w' fun e w2 => ∃ a c, e = .returned (.tuple #[.agg #[.string (tN TV), .slice a (tL TV).length c], .agg #[.int .i64 (tE TV), .int .i64 (tA TV)]]) /\ StpsAt w2 a (tL TV) /\ (tL TV).length <= c /\ (∀ x, a = some x -> w'.heap.size <= x.block) /\ Gr w' w2) := fun w' => dText_any ⟨TV.toArray⟩ w' (by simp [ByteArray.size]; omega)
 generalize tN TV = VN at *
 generalize tL TV = VL at *
 generalize tE TV = VE at *
 generalize tA TV = VA at *
 have hlt := h.lt
 have HW : Hid (Rdr w g s (p : Int)) := h
 have hne : w.heap.size ≠ g := by omega
 clear h hsz htl hs
 go_enter Tryz.func73, Tryz.ntmps73
 go_wp2_with fail
 refine (HT.out _ HW.out.alloc).mono ?_
 rintro e1 w1 ⟨rfl, h1, g1⟩
 have G1 : Hid (GB g w w1) := (GB.refl g w).alloc.trans g1
 have R1 : Hid (Cs w1 w.heap.size [.string ⟨#[]⟩, .slice none 0 0]) := g1.cs (Cs.new w [.string ⟨#[]⟩, .slice none 0 0] 27 _ rfl) hne
 have hw1 : w.heap.size < w1.heap.size := R1.out.lt
 have H1 := Lib.hid h1
 clear h1 g1
 go_wp2_with fail
 refine (HP.out _).mono ?_
 rintro e2 w2 ⟨ad2, cap2, rfl, hia, _, hfr, hg2⟩
 have H2 := Lib.hid (H1.out.gr hg2)
 have G2 : Hid (GB g w w2) := G1.out.gr hg2
 have hw2 : w.heap.size < w2.heap.size := Nat.lt_of_lt_of_le hw1 hg2.size
 have hlt2 : g < w2.heap.size := H2.out.lt
 have R2 := Lib.hid (R1.out.gr hg2)
 have HF : Hid (∀ a, ad2 = some a -> w1.heap.size <= a.block) := hfr
 have HH := Lib.hid hia
 have hnn : w2.heap.size ≠ w.heap.size := by omega
 have hnb : w.heap.size ≠ w2.heap.size := by omega
 clear hfr hia hg2
 have r2 := R2.out
 obtain ⟨c0, c1, cf0, cf1, clt⟩ := r2.d2
 clear r2
 go_wp2
 exact bodyPost_ret (v := .agg #[.string VN, .slice ad2 VL.length cap2]) (by simp [results, Tryz.results73, go_sem, *]) rfl (by
  refine ⟨ad2, cap2, rfl, ?_, fun a e => by have := HF.out a e; omega, ?_, ?_⟩
  ·exact (HH.out.far2 w.heap.size (fun a e => by have := HF.out a e; omega) _ _).alloc.alloc
  ·exact (H2.out.far2 w.heap.size hne _ _).alloc.alloc
  ·exact ((G2.out.setNew _ _ (Or.inl (Nat.le_refl _))).setNew _ _ (Or.inl (Nat.le_refl _))).alloc.alloc)
end Go.Proofs.YthaadiclopoamaaGreatDoor
/- record: a reader's move. -/
set_option maxRecDepth 100000
set_option maxHeartbeats 8000000
namespace Go.Proofs.YthaadiclopoamaaGreatDoor
open Go.RowKit
open Df (Stp)

/- what Move answers -/
def RmvR (g : Nat) (l : List UInt8) (p : Nat) (w : World) (e : Ending) (w' : World) : Prop :=
 ∃ a1 c1 a2 c2, e = .returned (.agg #[.int .i64 (Rc.rdM l p).k, .int .i64 (Rc.rdM l p).r, .int .i64 (Rc.rdM l p).n, .slice a1 (Rc.rdM l p).L.length c1, .int .i64 (Rc.rdM l p).s, .int .i64 (Rc.rdM l p).y, .string (Rc.rdM l p).d, .slice a2 (Rc.rdM l p).S.length c2]) /\ HopsAt w' a1 (Rc.rdM l p).L /\ StpsAt w' a2 (Rc.rdM l p).S /\ (∀ a, a1 = some a -> w.heap.size < a.block) /\ (∀ a, a2 = some a -> w.heap.size < a.block) /\ GB g w w'

theorem rmv_any (g : Nat) (s : ByteArray) (p : Nat) (w0 w : World) (h : Rdr w g s (p : Int)) (hs : s.size <= 140737488355328) (he : Env w0) (h0 : Gr w0 w) (hb : w0.heap.size <= g) :
  Calls Tryz.prog 70 #[.pointer (some ⟨g, 0, none⟩)] w fun e w' => RmvR g s.data.toList p w e w' := by
 have HM : Hid (Rc.rdM s.data.toList p = ⟨Rc.nv s.data.toList p, Rc.ivR (Rc.tv s.data.toList (Rc.np s.data.toList p)), Rc.ivN (Rc.tv s.data.toList (Rc.np s.data.toList p)), Rc.ivL (Rc.tv s.data.toList (Rc.np s.data.toList p)), Rc.nv s.data.toList (Rc.tp s.data.toList (Rc.np s.data.toList p)), Rc.nv s.data.toList (Rc.np s.data.toList (Rc.tp s.data.toList (Rc.np s.data.toList p))), tN (Rc.tv s.data.toList (Rc.np s.data.toList (Rc.np s.data.toList (Rc.tp s.data.toList (Rc.np s.data.toList p))))), tL (Rc.tv s.data.toList (Rc.np s.data.toList (Rc.np s.data.toList (Rc.tp s.data.toList (Rc.np s.data.toList p)))))⟩) := rfl
 unfold RmvR
 have HN : Hid (∀ (q : Nat) (w' : World), Rdr w' g s (q : Int) -> Calls Tryz.prog 69 #[.pointer (some ⟨g, 0, none⟩)] w' fun e w2 => e = .returned (.int .i64 (Rc.nv s.data.toList q)) /\ Rdr w2 g s (Rc.np s.data.toList q : Nat) /\ GB g w' w2) := fun q w' h' => rnum_any g s q w' h' hs
 have HI : Hid (∀ (q : Nat) (w' : World), Gr w0 w' -> Rdr w' g s (q : Int) -> Calls Tryz.prog 93 #[.pointer (some ⟨g, 0, none⟩)] w' fun e w2 => ∃ ad cap, e = .returned (.agg #[.int .i64 (Rc.ivR (Rc.tv s.data.toList q)), .int .i64 (Rc.ivN (Rc.tv s.data.toList q)), .slice ad (Rc.ivL (Rc.tv s.data.toList q)).length cap]) /\ HopsAt w2 ad (Rc.ivL (Rc.tv s.data.toList q)) /\ (∀ a, ad = some a -> w'.heap.size < a.block) /\ Rdr w2 g s (Rc.tp s.data.toList q : Nat) /\ GB g w' w2) := fun q w' g' h' => rid_any g s q w0 w' h' hs he g' hb
 have HD : Hid (∀ (q : Nat) (w' : World), Rdr w' g s (q : Int) -> Calls Tryz.prog 73 #[.pointer (some ⟨g, 0, none⟩)] w' fun e w2 => ∃ ad cap, e = .returned (.agg #[.string (tN (Rc.tv s.data.toList q)), .slice ad (tL (Rc.tv s.data.toList q)).length cap]) /\ StpsAt w2 ad (tL (Rc.tv s.data.toList q)) /\ (∀ a, ad = some a -> w'.heap.size < a.block) /\ Rdr w2 g s (Rc.tp s.data.toList q : Nat) /\ GB g w' w2) := fun q w' h' => rdf_any g s q w' h' hs
 have H1 := Lib.hid (HN.out p)
 have H2 := Lib.hid (HI.out (Rc.np s.data.toList p))
 have H3 := Lib.hid (HN.out (Rc.tp s.data.toList (Rc.np s.data.toList p)))
 have H4 := Lib.hid (HN.out (Rc.np s.data.toList (Rc.tp s.data.toList (Rc.np s.data.toList p))))
 have H5 := Lib.hid (HD.out (Rc.np s.data.toList (Rc.np s.data.toList (Rc.tp s.data.toList (Rc.np s.data.toList p)))))
 clear HN HI HD
 generalize Rc.rdM s.data.toList p = M at *
 generalize Rc.nv s.data.toList p = v0 at *
 generalize Rc.np s.data.toList p = p1 at *
 generalize Rc.ivR (Rc.tv s.data.toList p1) = i1 at *
 generalize Rc.ivN (Rc.tv s.data.toList p1) = i2 at *
 generalize Rc.ivL (Rc.tv s.data.toList p1) = iL at *
 generalize Rc.tp s.data.toList p1 = p2 at *
 generalize Rc.nv s.data.toList p2 = v4 at *
 generalize Rc.np s.data.toList p2 = p3 at *
 generalize Rc.nv s.data.toList p3 = v5 at *
 generalize Rc.np s.data.toList p3 = p4 at *
 generalize tN (Rc.tv s.data.toList p4) = dn at *
 generalize tL (Rc.tv s.data.toList p4) = dS at *
 have hlt := h.lt
 have hsz0 := h0.size
 have hne : w.heap.size ≠ g := by omega
 have HW : Hid (Rdr w g s (p : Int)) := h
 have HG0 : Hid (Gr w0 w) := h0
 clear h h0 he hs
 go_enter Tryz.func70, Tryz.ntmps70
 go_wp2_with fail
 refine (H1.out _ HW.out.alloc).mono ?_
 rintro e1 w1 ⟨rfl, h1, g1⟩
 have R1 : Hid (Cs w1 w.heap.size [.int .i64 0, .int .i64 0, .int .i64 0, .slice none 0 0, .int .i64 0, .int .i64 0, .string ⟨#[]⟩, .slice none 0 0]) := g1.cs (Cs.new w [.int .i64 0, .int .i64 0, .int .i64 0, .slice none 0 0, .int .i64 0, .int .i64 0, .string ⟨#[]⟩, .slice none 0 0] 29 _ rfl) hne
 have P1 := Lib.hid h1
 have K1 : Hid (GB g w w1) := GB.trans (GB.refl g w).alloc g1
 have G1 : Hid (Gr w0 w1) := Gr.gb HG0.out.alloc g1 hb
 have lt1 : w.heap.size < w1.heap.size := R1.out.lt
 clear h1 g1
 have r1 := R1.out
 obtain ⟨c0, c1, c2, c3, c4, c5, c6, c7, cf0, cf1, cf2, cf3, cf4, cf5, cf6, cf7, clt⟩ := r1.d8
 clear r1
 go_wp2_with fail
 refine (H2.out _ (G1.out.set ⟨w.heap.size, 0, none⟩ (by show w0.heap.size <= w.heap.size; omega) (.int .i64 v0)) (P1.out.far ⟨w.heap.size, 0, none⟩ (.int .i64 v0) hne)).mono ?_
 rintro e2 w2 ⟨ad1, cap1, rfl, hia, hfr, h2, g2⟩
 have F1 : Hid (∀ a, ad1 = some a -> w1.heap.size < a.block) := fun a e => by have := hfr a e; simpa using this
 have HH2 := Lib.hid hia
 clear hia hfr
 have R2 : Hid (Cs w2 w.heap.size [.int .i64 v0, .int .i64 0, .int .i64 0, .slice none 0 0, .int .i64 0, .int .i64 0, .string ⟨#[]⟩, .slice none 0 0]) := g2.cs (R1.out.set 0 (by simp) (.int .i64 v0)) hne
 have P2 := Lib.hid h2
 have K2 : Hid (GB g w w2) := GB.trans (K1.out.setNew ⟨w.heap.size, 0, none⟩ (.int .i64 v0) (Or.inl (Nat.le_refl _))) g2
 have G2 : Hid (Gr w0 w2) := Gr.gb (G1.out.set ⟨w.heap.size, 0, none⟩ (by show w0.heap.size <= w.heap.size; omega) (.int .i64 v0)) g2 hb
 have lt2 : w.heap.size < w2.heap.size := R2.out.lt
 clear h2 g2
 clear c0 cf0 c1 cf1 c2 cf2 c3 cf3 c4 cf4 c5 cf5 c6 cf6 c7 cf7 clt
 have r2 := R2.out
 obtain ⟨c0, c1, c2, c3, c4, c5, c6, c7, cf0, cf1, cf2, cf3, cf4, cf5, cf6, cf7, clt⟩ := r2.d8
 clear r2
 go_wp2_with fail
 refine (H3.out _ (((P2.out.far ⟨w.heap.size, 1, none⟩ (.int .i64 i1) hne).far ⟨w.heap.size, 2, none⟩ (.int .i64 i2) hne).far ⟨w.heap.size, 3, none⟩ (.slice ad1 iL.length cap1) hne)).mono ?_
 rintro e3 w3 ⟨rfl, h3, g3⟩
 have R3 : Hid (Cs w3 w.heap.size [.int .i64 v0, .int .i64 i1, .int .i64 i2, .slice ad1 iL.length cap1, .int .i64 0, .int .i64 0, .string ⟨#[]⟩, .slice none 0 0]) := g3.cs (((R2.out.set 1 (by simp) (.int .i64 i1)).set 2 (by simp) (.int .i64 i2)).set 3 (by simp) (.slice ad1 iL.length cap1)) hne
 have P3 := Lib.hid h3
 have K3 : Hid (GB g w w3) := GB.trans (((K2.out.setNew ⟨w.heap.size, 1, none⟩ (.int .i64 i1) (Or.inl (Nat.le_refl _))).setNew ⟨w.heap.size, 2, none⟩ (.int .i64 i2) (Or.inl (Nat.le_refl _))).setNew ⟨w.heap.size, 3, none⟩ (.slice ad1 iL.length cap1) (Or.inl (Nat.le_refl _))) g3
 have G3 : Hid (Gr w0 w3) := Gr.gb (((G2.out.set ⟨w.heap.size, 1, none⟩ (by show w0.heap.size <= w.heap.size; omega) (.int .i64 i1)).set ⟨w.heap.size, 2, none⟩ (by show w0.heap.size <= w.heap.size; omega) (.int .i64 i2)).set ⟨w.heap.size, 3, none⟩ (by show w0.heap.size <= w.heap.size; omega) (.slice ad1 iL.length cap1)) g3 hb
 have HH3 : Hid (HopsAt w3 ad1 iL) := g3.hops (((HH2.out.set ⟨w.heap.size, 1, none⟩ (.int .i64 i1) (fun a e => by have := F1.out a e; show w.heap.size ≠ a.block; omega)).set ⟨w.heap.size, 2, none⟩ (.int .i64 i2) (fun a e => by have := F1.out a e; show w.heap.size ≠ a.block; omega)).set ⟨w.heap.size, 3, none⟩ (.slice ad1 iL.length cap1) (fun a e => by have := F1.out a e; show w.heap.size ≠ a.block; omega)) (fun a e => by have := F1.out a e; omega)
 have lt3 : w.heap.size < w3.heap.size := R3.out.lt
 clear h3 g3
 clear c0 cf0 c1 cf1 c2 cf2 c3 cf3 c4 cf4 c5 cf5 c6 cf6 c7 cf7 clt
 have r3 := R3.out
 obtain ⟨c0, c1, c2, c3, c4, c5, c6, c7, cf0, cf1, cf2, cf3, cf4, cf5, cf6, cf7, clt⟩ := r3.d8
 clear r3
 go_wp2_with fail
 refine (H4.out _ (P3.out.far ⟨w.heap.size, 4, none⟩ (.int .i64 v4) hne)).mono ?_
 rintro e4 w4 ⟨rfl, h4, g4⟩
 have R4 : Hid (Cs w4 w.heap.size [.int .i64 v0, .int .i64 i1, .int .i64 i2, .slice ad1 iL.length cap1, .int .i64 v4, .int .i64 0, .string ⟨#[]⟩, .slice none 0 0]) := g4.cs (R3.out.set 4 (by simp) (.int .i64 v4)) hne
 have P4 := Lib.hid h4
 have K4 : Hid (GB g w w4) := GB.trans (K3.out.setNew ⟨w.heap.size, 4, none⟩ (.int .i64 v4) (Or.inl (Nat.le_refl _))) g4
 have G4 : Hid (Gr w0 w4) := Gr.gb (G3.out.set ⟨w.heap.size, 4, none⟩ (by show w0.heap.size <= w.heap.size; omega) (.int .i64 v4)) g4 hb
 have HH4 : Hid (HopsAt w4 ad1 iL) := g4.hops (HH3.out.set ⟨w.heap.size, 4, none⟩ (.int .i64 v4) (fun a e => by have := F1.out a e; show w.heap.size ≠ a.block; omega)) (fun a e => by have := F1.out a e; omega)
 have lt4 : w.heap.size < w4.heap.size := R4.out.lt
 clear h4 g4
 clear c0 cf0 c1 cf1 c2 cf2 c3 cf3 c4 cf4 c5 cf5 c6 cf6 c7 cf7 clt
 have r4 := R4.out
 obtain ⟨c0, c1, c2, c3, c4, c5, c6, c7, cf0, cf1, cf2, cf3, cf4, cf5, cf6, cf7, clt⟩ := r4.d8
 clear r4
 go_wp2_with fail
 refine (H5.out _ (P4.out.far ⟨w.heap.size, 5, none⟩ (.int .i64 v5) hne)).mono ?_
 rintro e5 w5 ⟨ad2, cap2, rfl, hib, hfr, h5, g5⟩
 have F2 : Hid (∀ a, ad2 = some a -> w4.heap.size < a.block) := fun a e => by have := hfr a e; simpa using this
 have HS5 := Lib.hid hib
 clear hib hfr
 have R5 : Hid (Cs w5 w.heap.size [.int .i64 v0, .int .i64 i1, .int .i64 i2, .slice ad1 iL.length cap1, .int .i64 v4, .int .i64 v5, .string ⟨#[]⟩, .slice none 0 0]) := g5.cs (R4.out.set 5 (by simp) (.int .i64 v5)) hne
 have P5 := Lib.hid h5
 have K5 : Hid (GB g w w5) := GB.trans (K4.out.setNew ⟨w.heap.size, 5, none⟩ (.int .i64 v5) (Or.inl (Nat.le_refl _))) g5
 have G5 : Hid (Gr w0 w5) := Gr.gb (G4.out.set ⟨w.heap.size, 5, none⟩ (by show w0.heap.size <= w.heap.size; omega) (.int .i64 v5)) g5 hb
 have HH5 : Hid (HopsAt w5 ad1 iL) := g5.hops (HH4.out.set ⟨w.heap.size, 5, none⟩ (.int .i64 v5) (fun a e => by have := F1.out a e; show w.heap.size ≠ a.block; omega)) (fun a e => by have := F1.out a e; omega)
 have lt5 : w.heap.size < w5.heap.size := R5.out.lt
 clear h5 g5
 clear c0 cf0 c1 cf1 c2 cf2 c3 cf3 c4 cf4 c5 cf5 c6 cf6 c7 cf7 clt
 have r5 := R5.out
 obtain ⟨c0, c1, c2, c3, c4, c5, c6, c7, cf0, cf1, cf2, cf3, cf4, cf5, cf6, cf7, clt⟩ := r5.d8
 clear r5
 go_wp2
 have hne1 : ∀ a, ad1 = some a -> w.heap.size ≠ a.block := fun a e => by have := F1.out a e; omega
 have hne2 : ∀ a, ad2 = some a -> w.heap.size ≠ a.block := fun a e => by have := F2.out a e; omega
 have Q := Cs.fill8 ((R5.out.set 6 (by simp) (.string dn)).set 7 (by simp) (.slice ad2 dS.length cap2)) rfl (.int .i64 v0) (.int .i64 i1) (.int .i64 i2) (.slice ad1 iL.length cap1) (.int .i64 v4) (.int .i64 v5) (.string dn) (.slice ad2 dS.length cap2)
 obtain ⟨k0, k1, k2, k3, k4, k5, k6, k7, klt⟩ := Q.c8
 clear Q c0 cf0 c1 cf1 c2 cf2 c3 cf3 c4 cf4 c5 cf5 c6 cf6 c7 cf7
 exact bodyPost_ret (v := .agg #[.int .i64 v0, .int .i64 i1, .int .i64 i2, .slice ad1 iL.length cap1, .int .i64 v4, .int .i64 v5, .string dn, .slice ad2 dS.length cap2]) (by simp [results, Tryz.results70, go_sem, *]) rfl (by
  rw [HM.out]
  exact ⟨ad1, cap1, ad2, cap2, rfl, ((HH5.out.set ⟨w.heap.size, 6, none⟩ (.string dn) (fun a e => by have := F1.out a e; show w.heap.size ≠ a.block; omega)).set ⟨w.heap.size, 7, none⟩ (.slice ad2 dS.length cap2) (fun a e => by have := F1.out a e; show w.heap.size ≠ a.block; omega)).far8 w.heap.size hne1 _ _ _ _ _ _ _ _, ((HS5.out.far ⟨w.heap.size, 6, none⟩ (.string dn) (fun a e => by have := F2.out a e; show w.heap.size ≠ a.block; omega)).far ⟨w.heap.size, 7, none⟩ (.slice ad2 dS.length cap2) (fun a e => by have := F2.out a e; show w.heap.size ≠ a.block; omega)).far8 w.heap.size hne2 _ _ _ _ _ _ _ _, fun a e => by have := F1.out a e; omega, fun a e => by have := F2.out a e; omega, ((((((((((K5.out.setNew ⟨w.heap.size, 6, none⟩ (.string dn) (Or.inl (Nat.le_refl _))).setNew ⟨w.heap.size, 7, none⟩ (.slice ad2 dS.length cap2) (Or.inl (Nat.le_refl _))).setNew _ _ (Or.inl (Nat.le_refl _))).setNew _ _ (Or.inl (Nat.le_refl _))).setNew _ _ (Or.inl (Nat.le_refl _))).setNew _ _ (Or.inl (Nat.le_refl _))).setNew _ _ (Or.inl (Nat.le_refl _))).setNew _ _ (Or.inl (Nat.le_refl _))).setNew _ _ (Or.inl (Nat.le_refl _))).setNew _ _ (Or.inl (Nat.le_refl _)))⟩)
end Go.Proofs.YthaadiclopoamaaGreatDoor
/- What is read of bytes is small. -/
set_option maxRecDepth 100000
set_option maxHeartbeats 8000000
namespace Go.Proofs.YthaadiclopoamaaGreatDoor
open Go.RowKit
open Df (Stp)

theorem tl_in (t : List UInt8) : (tL t).length <= 8 /\ (tN t).size <= 16 /\ ∀ s ∈ tL t, inS s := by
 by_cases h : tE t = 0
 ·obtain ⟨h1, h2, h3, h4⟩ := (Df.def_iff _ _).1 (read_may h)
  exact ⟨h3, name_le h1, fun s hs => stp_in (h4 s hs)⟩
 ·unfold tL tN
  rw [if_neg h, if_neg h]
  exact ⟨by simp, by decide, by simp⟩
theorem iv_in (t : List UInt8) : (Rc.ivL t).length <= 4 := by
 unfold Rc.ivL
 split
 ·rename_i h
  unfold parB at h
  simp only [Bool.and_eq_true] at h
  exact (may_root h.1).2.2.2.2.1
 ·simp
theorem tv_in (l : List UInt8) (p : Nat) : (Rc.tv l p).length <= l.length := by
 unfold Rc.tv
 rcases Pk.takeText_spec l p with h | h
 ·exact h.2.2.2.2
 ·rw [h.1]; simp
structure RcSm (n : Nat) (x : Rc) : Prop where
 mL : x.m.L.length <= 4
 mS : x.m.S.length <= 8
 md : x.m.d.size <= 16
 mi : ∀ s ∈ x.m.S, inS s
 S : x.S.length <= 8
 d : x.d.size <= 16
 i : ∀ s ∈ x.S, inS s
 a : x.a.size <= n
 t : x.t.size <= n
theorem z16 : (⟨#[]⟩ : ByteArray).size <= 16 := by decide
theorem sm_zero (n : Nat) (k : Int) : RcSm n ⟨k, Rc.zM, ⟨#[]⟩, 0, ⟨#[]⟩, [], ⟨#[]⟩⟩ := ⟨by simp [Rc.zM], by simp [Rc.zM], z16, by simp [Rc.zM], by simp, z16, by simp, Nat.zero_le _, Nat.zero_le _⟩
theorem rd_sm (l : List UInt8) : RcSm l.length (Rc.rd l) := by
 unfold Rc.rd
 split
 ·obtain ⟨h1, h2, h3⟩ := tl_in (Rc.tv l (Rc.np l (Rc.np l (Rc.tp l (Rc.np l (Rc.np l 0))))))
  have e : Rc.rdM l (Rc.np l 0) = ⟨Rc.nv l (Rc.np l 0), Rc.ivR (Rc.tv l (Rc.np l (Rc.np l 0))), Rc.ivN (Rc.tv l (Rc.np l (Rc.np l 0))), Rc.ivL (Rc.tv l (Rc.np l (Rc.np l 0))), Rc.nv l (Rc.tp l (Rc.np l (Rc.np l 0))), Rc.nv l (Rc.np l (Rc.tp l (Rc.np l (Rc.np l 0)))), tN (Rc.tv l (Rc.np l (Rc.np l (Rc.tp l (Rc.np l (Rc.np l 0)))))), tL (Rc.tv l (Rc.np l (Rc.np l (Rc.tp l (Rc.np l (Rc.np l 0))))))⟩ := rfl
  rw [e]
  generalize Rc.tv l (Rc.np l (Rc.np l (Rc.tp l (Rc.np l (Rc.np l 0))))) = t5 at *
  generalize tL t5 = S at *
  generalize tN t5 = d at *
  refine ⟨?_, ?_, ?_, ?_, by simp, z16, by simp, Nat.zero_le _, Nat.zero_le _⟩
  ·exact iv_in _
  ·exact h1
  ·exact h2
  ·exact h3
 split
 ·exact ⟨by simp [Rc.zM], by simp [Rc.zM], z16, by simp [Rc.zM], by simp, z16, by simp, by simpa [ByteArray.size] using tv_in l _, Nat.zero_le _⟩
 split
 ·obtain ⟨h1, h2, h3⟩ := tl_in (Rc.tv l (Rc.np l 0))
  exact ⟨by simp [Rc.zM], by simp [Rc.zM], z16, by simp [Rc.zM], h1, h2, h3, Nat.zero_le _, Nat.zero_le _⟩
 split
 ·exact ⟨by simp [Rc.zM], by simp [Rc.zM], z16, by simp [Rc.zM], by simp, z16, by simp, Nat.zero_le _, by simpa [ByteArray.size] using tv_in l _⟩
 exact sm_zero _ _
theorem RcSm.rcIn {n : Nat} {x : Rc} (h : RcSm n x) (hn : n <= 140737488355328) {w : World} {a1 a2 a3 : Option Addr} {c1 c2 c3 : Nat} (h1 : HopsAt w a1 x.m.L) (h2 : StpsAt w a2 x.m.S) (h3 : StpsAt w a3 x.S) : RcIn w x a1 c1 a2 c2 a3 c3 := by
 have := h.mL; have := h.mS; have := h.md; have := h.S; have := h.d; have := h.a; have := h.t
 exact ⟨⟨h1, h2, by omega, by omega, by omega, h.mi⟩, h3, by omega, by omega, h.i, by omega, by omega⟩
theorem zR_in (w : World) : RcIn w Rc.zR none 0 none 0 none 0 := (sm_zero 0 0).rcIn (by decide) HopsAt.nil RowAt.nil RowAt.nil
end Go.Proofs.YthaadiclopoamaaGreatDoor
