/- Parts of these proofs, laid together. -/
import Derived.Test.YtcmbppjfpdkblaaGreatDoorGR
import Derived.Test.YtcmbppjfpdkblaaGreatDoorGQ
import Derived.Test.YtcmbppjfpdkblaaGreatDoorGG
/- note: what Decode answers. -/
namespace Go.Proofs.YtcmbppjfpdkblaaGreatDoor
open Go.RowKit

theorem rd_small (l : List UInt8) : (Nt.rdF l).n.L.length ≤ 4 ∧ (Nt.rdF l).n.d.size ≤ l.length := by
  show (Nt.rdN l).L.length ≤ 4 ∧ (Nt.rdN l).d.size ≤ l.length
  unfold Nt.rdN
  split
  · exact ⟨by simp [Nt.zeroN], by simp [Nt.zeroN, ByteArray.size]⟩
  · refine ⟨?_, ?_⟩
    · show (Nt.ivL l (Nt.q7 l)).length ≤ 4
      unfold Nt.ivL
      split
      · exact readH_len 4 _ _
      · simp
    · show (⟨(Nt.tv l (Nt.q8 l)).toArray⟩ : ByteArray).size ≤ l.length
      have := tv_len l (Nt.q8 l)
      simpa [ByteArray.size] using this

/- what Decode answers -/
def DcR (s : ByteArray) (w : World) (e : Ending) (w' : World) : Prop :=
  ∃ ad cap, e = .returned (.tuple #[.agg (fmC (Nt.dcF s.data.toList) ad cap).toArray, .int .i64 (Nt.dcE s.data.toList)]) ∧ (Nt.dcF s.data.toList).n.L.length ≤ cap ∧ HopsAt w' ad (Nt.dcF s.data.toList).n.L ∧ (∀ a, ad = some a → w.heap.size ≤ a.block) ∧ Gr w w'

set_option maxHeartbeats 4000000 in
set_option maxRecDepth 100000 in
theorem nDecode_any (s : ByteArray) (w : World) (hT : Tab w) (he : Env w) (hs : s.size ≤ 140737488355328) :
    Calls Tryz.prog 20 #[.string s] w fun e w' => DcR s w e w' := by
  have hsz : s.data.toList.length = s.size := by simp
  have HO : Hid (∀ w', Gr w w' → Calls Tryz.prog 46 #[.string s, .int .i64 0, .int .i64 1] w' fun e w2 => e = .returned (.tuple #[.string ⟨(Sl.openE s.data.toList 0 1).1.toArray⟩, .int .i64 (Sl.openE s.data.toList 0 1).2.1, .int .i64 (Sl.openE s.data.toList 0 1).2.2]) ∧ Gr w' w2) := fun w' g => open_any s 0 1 w' (hT.gr g) hs
  have HB : Hid (Nt.dcB s.data.toList = (decide ((Sl.openE s.data.toList 0 1).2.1 = s.size) && Nt.overB (Sl.openE s.data.toList 0 1).1 (Nt.rdQ (Sl.openE s.data.toList 0 1).1) && Nt.frB (Nt.rdF (Sl.openE s.data.toList 0 1).1))) := by
    show _ = _
    unfold Nt.dcB; rw [hsz]
  have HF : Hid (Nt.dcF s.data.toList = if (Sl.openE s.data.toList 0 1).2.2 = 0 ∧ Nt.dcB s.data.toList = true then Nt.rdF (Sl.openE s.data.toList 0 1).1 else Nt.zeroF) := rfl
  have HE : Hid (Nt.dcE s.data.toList = if (Sl.openE s.data.toList 0 1).2.2 = 0 then (if Nt.dcB s.data.toList = true then 0 else 130) else ((Sl.openE s.data.toList 0 1).2.2 : Int)) := rfl
  have hlen : (Sl.openE s.data.toList 0 1).2.2 = 0 → (Sl.openE s.data.toList 0 1).1.length ≤ 30000 := fun h0 => (Sl.open_form s.data.toList 0 1 (Sl.openE s.data.toList 0 1).1 (Sl.openE s.data.toList 0 1).2.1 (show Sl.openE s.data.toList 0 1 = _ from Prod.ext rfl (Prod.ext rfl h0))).1
  unfold DcR
  generalize Nt.dcF s.data.toList = RF at *
  generalize Nt.dcE s.data.toList = RE at *
  generalize Nt.dcB s.data.toList = RB at *
  generalize (Sl.openE s.data.toList 0 1).1 = B at *
  generalize (Sl.openE s.data.toList 0 1).2.1 = q at *
  generalize (Sl.openE s.data.toList 0 1).2.2 = eo at *
  by_cases h0 : eo = 0
  · subst h0
    rw [if_pos rfl] at HE
    have hB := hlen rfl
    have hrs := rd_small B
    have HR : Hid (∀ (w' : World) (g : Nat), w.heap.size ≤ g → Gr w w' → Pl w' g ⟨B.toArray⟩ 0 false [.int .i64 0, .int .i64 0, .int .i64 0, .int .i64 0, .int .i64 0, .int .i64 0, .int .i64 0, .int .i64 0, .int .i64 0, .slice none 0 0, .string ⟨#[]⟩, .int .i64 0] → Calls Tryz.prog 47 #[.pointer (some ⟨g, 0, none⟩)] w' fun e w2 => e = .returned (.tuple #[]) ∧ ∃ ad cap, Pl w2 g ⟨B.toArray⟩ ((Nt.rdQ B).p : Int) (Nt.rdQ B).b (fmC (Nt.rdF B) ad cap) ∧ HopsAt w2 ad (Nt.rdF B).n.L ∧ (Nt.rdF B).n.L.length ≤ cap ∧ (∀ a, ad = some a → w'.heap.size ≤ a.block) ∧ GB g w' w2) := fun w' g hg h1 h2 => rdRead_any g ⟨B.toArray⟩ w w' h2 (by simp [ByteArray.size]; omega) he h1 hg
    have HV : Hid (∀ (w' : World) (g : Nat) (tl : List Value), Pl w' g ⟨B.toArray⟩ ((Nt.rdQ B).p : Int) (Nt.rdQ B).b tl → Calls Tryz.prog 48 #[.pointer (some ⟨g, 0, none⟩)] w' fun e w2 => e = .returned (.bool (Nt.overB B (Nt.rdQ B))) ∧ Gr w' w2) := fun w' g tl h => over_any g ⟨B.toArray⟩ (Nt.rdQ B).p (Nt.rdQ B).b tl w' h
    obtain ⟨⟨fr, tx, ep, sq, ae, ac, ⟨k, r, n, L, d, y⟩⟩, hX⟩ : ∃ X, Nt.rdF B = X := ⟨_, rfl⟩
    rw [hX] at HR HB HF hrs
    simp only [fmC] at HR hrs
    have HM : Hid (∀ (w' : World) (ad : Option Addr) (cap : Nat), HopsAt w' ad L → L.length ≤ cap → Calls Tryz.prog 18 #[.agg #[.int .i64 fr, .int .i64 tx, .int .i64 ep, .int .i64 sq, .int .i64 ae, .int .i64 ac, .int .i64 k, .int .i64 r, .int .i64 n, .slice ad L.length cap, .string d, .int .i64 y]] w' fun e w2 => e = .returned (.int .i64 (if Nt.frB ⟨fr, tx, ep, sq, ae, ac, ⟨k, r, n, L, d, y⟩⟩ = true then 0 else 130)) ∧ Gr w' w2) := fun w' ad cap h1 h2 => nFrame_any fr tx ep sq ae ac k r n L d y ad cap w' h1 (by omega) (by omega) h2
    generalize Nt.frB ⟨fr, tx, ep, sq, ae, ac, ⟨k, r, n, L, d, y⟩⟩ = bF at *
    generalize Nt.overB B (Nt.rdQ B) = bV at *
    generalize (Nt.rdQ B).p = rp at *
    generalize (Nt.rdQ B).b = rb at *
    generalize hbq : decide (q = s.size) = bQ at *
    have hqs : ((q : Int) != (s.size : Int)) = !bQ := by
      subst hbq
      by_cases e : q = s.size
      · subst e; simp
      · rw [decide_eq_false e]; simp; omega
    clear hT he hs hlen hX hrs hB hbq hsz
    go_enter Tryz.func20, Tryz.ntmps20
    go_wp2_with fail
    refine (HO.out _ ?_).mono ?_
    · exact (by repeat (first | exact Gr.refl _ | refine Gr.alloc ?_ | refine Gr.drew ?_ | refine Gr.trans ?_ (by assumption)))
    rintro e1 w1 ⟨rfl, hg1⟩
    have R1 : Hid (Cs w1 w.heap.size [.int .i64 0, .int .i64 0, .int .i64 0, .int .i64 0, .int .i64 0, .int .i64 0, .int .i64 0, .int .i64 0, .int .i64 0, .slice none 0 0, .string ⟨#[]⟩, .int .i64 0]) := (Cs.new w _ 39 _ rfl).gr hg1
    have hlt1 := R1.out.lt
    have hgw1 : Gr w w1 := (by repeat (first | exact Gr.refl _ | refine Gr.alloc ?_ | refine Gr.drew ?_ | refine Gr.trans ?_ (by assumption)))
    clear hg1
    go_wp2_with fail
    refine (HR.out _ _ ?_ ?_ (Cs.new w1 _ 77 _ rfl)).mono ?_
    · omega
    · exact hgw1.alloc
    rintro e2 w2 ⟨rfl, ad, cap, h2, hia, hcp, hfr, g2⟩
    have H2 := Lib.hid h2
    have HI := Lib.hid hia
    have HC := Lib.hid hcp
    have HA : Hid (∀ a, ad = some a → w1.heap.size + 1 ≤ a.block) := fun a e => by have := hfr a e; simpa using this
    have G2 : Hid (Gr w w2) := hgw1.alloc.gb g2 (by omega)
    have R2 : Hid (Cs w2 w.heap.size [.int .i64 0, .int .i64 0, .int .i64 0, .int .i64 0, .int .i64 0, .int .i64 0, .int .i64 0, .int .i64 0, .int .i64 0, .slice none 0 0, .string ⟨#[]⟩, .int .i64 0]) := g2.cs R1.out.alloc (by omega)
    have hlt2 := R2.out.lt
    clear h2 hia hcp hfr g2
    cases bQ with
    | false =>
      obtain rfl : RB = false := HB.out
      rw [Bool.not_false] at hqs
      have R3 := R2.out
      have c0 := R3.at_ 0 _ rfl
      have c1 := R3.at_ 1 _ rfl
      have c2 := R3.at_ 2 _ rfl
      have c3 := R3.at_ 3 _ rfl
      have c4 := R3.at_ 4 _ rfl
      have c5 := R3.at_ 5 _ rfl
      have c6 := R3.at_ 6 _ rfl
      have c7 := R3.at_ 7 _ rfl
      have c8 := R3.at_ 8 _ rfl
      have c9 := R3.at_ 9 _ rfl
      have c10 := R3.at_ 10 _ rfl
      have c11 := R3.at_ 11 _ rfl
      have cf0 := R3.fz 0 (by simp)
      have cf1 := R3.fz 1 (by simp)
      have cf2 := R3.fz 2 (by simp)
      have cf3 := R3.fz 3 (by simp)
      have cf4 := R3.fz 4 (by simp)
      have cf5 := R3.fz 5 (by simp)
      have cf6 := R3.fz 6 (by simp)
      have cf7 := R3.fz 7 (by simp)
      have cf8 := R3.fz 8 (by simp)
      have cf9 := R3.fz 9 (by simp)
      have cf10 := R3.fz 10 (by simp)
      have cf11 := R3.fz 11 (by simp)
      have clt := R3.lt
      rw [if_neg (by simp)] at HF
      rw [if_neg (by simp)] at HE
      go_wp2
      exact bodyPost_ret (v := .tuple #[.agg #[.int .i64 0, .int .i64 0, .int .i64 0, .int .i64 0, .int .i64 0, .int .i64 0, .int .i64 0, .int .i64 0, .int .i64 0, .slice none 0 0, .string ⟨#[]⟩, .int .i64 0], .int .i64 130]) (by simp [results, Tryz.results20, go_sem, *]) rfl ⟨none, 0, by rw [HF.out, HE.out]; rfl, by rw [HF.out]; simp [Nt.zeroF, Nt.zeroN], by rw [HF.out]; exact HopsAt.nil, fun a e => (by cases e), G2.out.set12 _ (Nat.le_refl _) _ _ _ _ _ _ _ _ _ _ _ _⟩
    | true =>
      rw [Bool.not_true] at hqs
      cases bV with
      | false =>
        obtain rfl : RB = false := HB.out
        go_wp2_with fail
        refine (HV.out _ _ _ H2.out).mono ?_
        rintro e3 w3 ⟨rfl, hg3⟩
        have G3 : Hid (Gr w w3) := G2.out.trans hg3
        have H3 := Lib.hid (H2.out.gr hg3)
        have I3 := Lib.hid (HI.out.gr hg3)
        have R3 := R2.out.gr hg3
        have b3 := H3.out
        clear hg3
        have c0 := R3.at_ 0 _ rfl
        have c1 := R3.at_ 1 _ rfl
        have c2 := R3.at_ 2 _ rfl
        have c3 := R3.at_ 3 _ rfl
        have c4 := R3.at_ 4 _ rfl
        have c5 := R3.at_ 5 _ rfl
        have c6 := R3.at_ 6 _ rfl
        have c7 := R3.at_ 7 _ rfl
        have c8 := R3.at_ 8 _ rfl
        have c9 := R3.at_ 9 _ rfl
        have c10 := R3.at_ 10 _ rfl
        have c11 := R3.at_ 11 _ rfl
        have cf0 := R3.fz 0 (by simp)
        have cf1 := R3.fz 1 (by simp)
        have cf2 := R3.fz 2 (by simp)
        have cf3 := R3.fz 3 (by simp)
        have cf4 := R3.fz 4 (by simp)
        have cf5 := R3.fz 5 (by simp)
        have cf6 := R3.fz 6 (by simp)
        have cf7 := R3.fz 7 (by simp)
        have cf8 := R3.fz 8 (by simp)
        have cf9 := R3.fz 9 (by simp)
        have cf10 := R3.fz 10 (by simp)
        have cf11 := R3.fz 11 (by simp)
        have clt := R3.lt
        rw [if_neg (by simp)] at HF
        rw [if_neg (by simp)] at HE
        go_wp2
        exact bodyPost_ret (v := .tuple #[.agg #[.int .i64 0, .int .i64 0, .int .i64 0, .int .i64 0, .int .i64 0, .int .i64 0, .int .i64 0, .int .i64 0, .int .i64 0, .slice none 0 0, .string ⟨#[]⟩, .int .i64 0], .int .i64 130]) (by simp [results, Tryz.results20, go_sem, *]) rfl ⟨none, 0, by rw [HF.out, HE.out]; rfl, by rw [HF.out]; simp [Nt.zeroF, Nt.zeroN], by rw [HF.out]; exact HopsAt.nil, fun a e => (by cases e), G3.out.set12 _ (Nat.le_refl _) _ _ _ _ _ _ _ _ _ _ _ _⟩
      | true =>
        cases bF with
        | false =>
          obtain rfl : RB = false := HB.out
          rw [show (if false = true then (0 : Int) else 130) = 130 from rfl] at HM
          go_wp2_with fail
          refine (HV.out _ _ _ H2.out).mono ?_
          rintro e3 w3 ⟨rfl, hg3⟩
          have G3 : Hid (Gr w w3) := G2.out.trans hg3
          have H3 := Lib.hid (H2.out.gr hg3)
          have I3 := Lib.hid (HI.out.gr hg3)
          have R3 := R2.out.gr hg3
          have b3 := H3.out
          clear hg3
          have q3 := b3.at_ 3 _ rfl
          have q4 := b3.at_ 4 _ rfl
          have q5 := b3.at_ 5 _ rfl
          have q6 := b3.at_ 6 _ rfl
          have q7 := b3.at_ 7 _ rfl
          have q8 := b3.at_ 8 _ rfl
          have q9 := b3.at_ 9 _ rfl
          have q10 := b3.at_ 10 _ rfl
          have q11 := b3.at_ 11 _ rfl
          have q12 := b3.at_ 12 _ rfl
          have q13 := b3.at_ 13 _ rfl
          have q14 := b3.at_ 14 _ rfl
          have qlt := b3.lt
          go_wp2_with fail
          refine (HM.out _ ad cap I3.out HC.out).mono ?_
          rintro e4 w4 ⟨rfl, hg4⟩
          have G4 : Hid (Gr w w4) := G3.out.trans hg4
          have R4 := R3.gr hg4
          have I4 := Lib.hid (I3.out.gr hg4)
          have b4 := H3.out.gr hg4
          clear hg4 q3 q4 q5 q6 q7 q8 q9 q10 q11 q12 q13 q14 qlt
          have c0 := R4.at_ 0 _ rfl
          have c1 := R4.at_ 1 _ rfl
          have c2 := R4.at_ 2 _ rfl
          have c3 := R4.at_ 3 _ rfl
          have c4 := R4.at_ 4 _ rfl
          have c5 := R4.at_ 5 _ rfl
          have c6 := R4.at_ 6 _ rfl
          have c7 := R4.at_ 7 _ rfl
          have c8 := R4.at_ 8 _ rfl
          have c9 := R4.at_ 9 _ rfl
          have c10 := R4.at_ 10 _ rfl
          have c11 := R4.at_ 11 _ rfl
          have cf0 := R4.fz 0 (by simp)
          have cf1 := R4.fz 1 (by simp)
          have cf2 := R4.fz 2 (by simp)
          have cf3 := R4.fz 3 (by simp)
          have cf4 := R4.fz 4 (by simp)
          have cf5 := R4.fz 5 (by simp)
          have cf6 := R4.fz 6 (by simp)
          have cf7 := R4.fz 7 (by simp)
          have cf8 := R4.fz 8 (by simp)
          have cf9 := R4.fz 9 (by simp)
          have cf10 := R4.fz 10 (by simp)
          have cf11 := R4.fz 11 (by simp)
          have clt := R4.lt
          rw [if_neg (by simp)] at HF
          rw [if_neg (by simp)] at HE
          go_wp2
          exact bodyPost_ret (v := .tuple #[.agg #[.int .i64 0, .int .i64 0, .int .i64 0, .int .i64 0, .int .i64 0, .int .i64 0, .int .i64 0, .int .i64 0, .int .i64 0, .slice none 0 0, .string ⟨#[]⟩, .int .i64 0], .int .i64 130]) (by simp [results, Tryz.results20, go_sem, *]) rfl ⟨none, 0, by rw [HF.out, HE.out]; rfl, by rw [HF.out]; simp [Nt.zeroF, Nt.zeroN], by rw [HF.out]; exact HopsAt.nil, fun a e => (by cases e), G4.out.set12 _ (Nat.le_refl _) _ _ _ _ _ _ _ _ _ _ _ _⟩
        | true =>
          obtain rfl : RB = true := HB.out
          rw [show (if true = true then (0 : Int) else 130) = 0 from rfl] at HM
          rw [if_pos (by simp)] at HF
          rw [if_pos rfl] at HE
          go_wp2_with fail
          refine (HV.out _ _ _ H2.out).mono ?_
          rintro e3 w3 ⟨rfl, hg3⟩
          have G3 : Hid (Gr w w3) := G2.out.trans hg3
          have H3 := Lib.hid (H2.out.gr hg3)
          have I3 := Lib.hid (HI.out.gr hg3)
          have R3 := R2.out.gr hg3
          have b3 := H3.out
          clear hg3
          have q3 := b3.at_ 3 _ rfl
          have q4 := b3.at_ 4 _ rfl
          have q5 := b3.at_ 5 _ rfl
          have q6 := b3.at_ 6 _ rfl
          have q7 := b3.at_ 7 _ rfl
          have q8 := b3.at_ 8 _ rfl
          have q9 := b3.at_ 9 _ rfl
          have q10 := b3.at_ 10 _ rfl
          have q11 := b3.at_ 11 _ rfl
          have q12 := b3.at_ 12 _ rfl
          have q13 := b3.at_ 13 _ rfl
          have q14 := b3.at_ 14 _ rfl
          have qlt := b3.lt
          go_wp2_with fail
          refine (HM.out _ ad cap I3.out HC.out).mono ?_
          rintro e4 w4 ⟨rfl, hg4⟩
          have G4 : Hid (Gr w w4) := G3.out.trans hg4
          have R4 := R3.gr hg4
          have I4 := Lib.hid (I3.out.gr hg4)
          have b4 := H3.out.gr hg4
          clear hg4 q3 q4 q5 q6 q7 q8 q9 q10 q11 q12 q13 q14 qlt
          have c0 := R4.at_ 0 _ rfl
          have c1 := R4.at_ 1 _ rfl
          have c2 := R4.at_ 2 _ rfl
          have c3 := R4.at_ 3 _ rfl
          have c4 := R4.at_ 4 _ rfl
          have c5 := R4.at_ 5 _ rfl
          have c6 := R4.at_ 6 _ rfl
          have c7 := R4.at_ 7 _ rfl
          have c8 := R4.at_ 8 _ rfl
          have c9 := R4.at_ 9 _ rfl
          have c10 := R4.at_ 10 _ rfl
          have c11 := R4.at_ 11 _ rfl
          have cf0 := R4.fz 0 (by simp)
          have cf1 := R4.fz 1 (by simp)
          have cf2 := R4.fz 2 (by simp)
          have cf3 := R4.fz 3 (by simp)
          have cf4 := R4.fz 4 (by simp)
          have cf5 := R4.fz 5 (by simp)
          have cf6 := R4.fz 6 (by simp)
          have cf7 := R4.fz 7 (by simp)
          have cf8 := R4.fz 8 (by simp)
          have cf9 := R4.fz 9 (by simp)
          have cf10 := R4.fz 10 (by simp)
          have cf11 := R4.fz 11 (by simp)
          have clt := R4.lt
          have q3 := b4.at_ 3 _ rfl
          have q4 := b4.at_ 4 _ rfl
          have q5 := b4.at_ 5 _ rfl
          have q6 := b4.at_ 6 _ rfl
          have q7 := b4.at_ 7 _ rfl
          have q8 := b4.at_ 8 _ rfl
          have q9 := b4.at_ 9 _ rfl
          have q10 := b4.at_ 10 _ rfl
          have q11 := b4.at_ 11 _ rfl
          have q12 := b4.at_ 12 _ rfl
          have q13 := b4.at_ 13 _ rfl
          have q14 := b4.at_ 14 _ rfl
          have qlt := b4.lt
          have hA : ∀ a, ad = some a → w.heap.size ≠ a.block := fun a e => by have := HA.out a e; omega
          clear R4 b4
          go_wp2
          exact bodyPost_ret (v := .tuple #[.agg #[.int .i64 fr, .int .i64 tx, .int .i64 ep, .int .i64 sq, .int .i64 ae, .int .i64 ac, .int .i64 k, .int .i64 r, .int .i64 n, .slice ad L.length cap, .string d, .int .i64 y], .int .i64 0]) (by simp [results, Tryz.results20, go_sem, *]) rfl ⟨ad, cap, by rw [HF.out, HE.out]; rfl, by rw [HF.out]; exact HC.out, by rw [HF.out]; exact I4.out.set12 _ hA _ _ _ _ _ _ _ _ _ _ _ _, fun a e => by have := HA.out a e; omega, G4.out.set12 _ (Nat.le_refl _) _ _ _ _ _ _ _ _ _ _ _ _⟩
  · rw [if_neg h0] at HE
    rw [if_neg (fun h => h0 h.1)] at HF
    have h0' : ((eo : Int) != 0) = true := by simpa using (show ¬ (eo : Int) = 0 by omega)
    clear hlen hT he hs h0 HB
    go_enter Tryz.func20, Tryz.ntmps20
    go_wp2_with fail
    refine (HO.out _ ?_).mono ?_
    · exact (by repeat (first | exact Gr.refl _ | refine Gr.alloc ?_ | refine Gr.drew ?_ | refine Gr.trans ?_ (by assumption)))
    rintro e1 w1 ⟨rfl, hg1⟩
    have R1 := (Cs.new w [.int .i64 0, .int .i64 0, .int .i64 0, .int .i64 0, .int .i64 0, .int .i64 0, .int .i64 0, .int .i64 0, .int .i64 0, .slice none 0 0, .string ⟨#[]⟩, .int .i64 0] 39 _ rfl).gr hg1
    have hgw1 : Gr w w1 := (by repeat (first | exact Gr.refl _ | refine Gr.alloc ?_ | refine Gr.drew ?_ | refine Gr.trans ?_ (by assumption)))
    have c0 := R1.at_ 0 _ rfl
    have c1 := R1.at_ 1 _ rfl
    have c2 := R1.at_ 2 _ rfl
    have c3 := R1.at_ 3 _ rfl
    have c4 := R1.at_ 4 _ rfl
    have c5 := R1.at_ 5 _ rfl
    have c6 := R1.at_ 6 _ rfl
    have c7 := R1.at_ 7 _ rfl
    have c8 := R1.at_ 8 _ rfl
    have c9 := R1.at_ 9 _ rfl
    have c10 := R1.at_ 10 _ rfl
    have c11 := R1.at_ 11 _ rfl
    have cf0 := R1.fz 0 (by simp)
    have cf1 := R1.fz 1 (by simp)
    have cf2 := R1.fz 2 (by simp)
    have cf3 := R1.fz 3 (by simp)
    have cf4 := R1.fz 4 (by simp)
    have cf5 := R1.fz 5 (by simp)
    have cf6 := R1.fz 6 (by simp)
    have cf7 := R1.fz 7 (by simp)
    have cf8 := R1.fz 8 (by simp)
    have cf9 := R1.fz 9 (by simp)
    have cf10 := R1.fz 10 (by simp)
    have cf11 := R1.fz 11 (by simp)
    have clt := R1.lt
    clear R1 hg1
    go_wp2
    exact bodyPost_ret (v := .tuple #[.agg #[.int .i64 0, .int .i64 0, .int .i64 0, .int .i64 0, .int .i64 0, .int .i64 0, .int .i64 0, .int .i64 0, .int .i64 0, .slice none 0 0, .string ⟨#[]⟩, .int .i64 0], .int .i64 (eo : Int)]) (by simp [results, Tryz.results20, go_sem, *]) rfl ⟨none, 0, by rw [HF.out, HE.out]; rfl, by rw [HF.out]; simp [Nt.zeroF, Nt.zeroN], by rw [HF.out]; exact HopsAt.nil, fun a e => (by cases e), hgw1.set12 _ (Nat.le_refl _) _ _ _ _ _ _ _ _ _ _ _ _⟩
end Go.Proofs.YtcmbppjfpdkblaaGreatDoor
/- What is read is small. -/
namespace Go.Proofs.YtcmbppjfpdkblaaGreatDoor

theorem dc_small (l : List UInt8) : (Nt.dcF l).n.L.length ≤ 4 ∧ (Nt.dcF l).n.d.size ≤ 9223372036854775807 := by
  unfold Nt.dcF
  split
  · next hc =>
    have hr := rd_small (Sl.openE l 0 1).1
    have ho := (Sl.open_form l 0 1 (Sl.openE l 0 1).1 (Sl.openE l 0 1).2.1 (show Sl.openE l 0 1 = _ from Prod.ext rfl (Prod.ext rfl hc.1))).1
    exact ⟨hr.1, by omega⟩
  · exact ⟨by simp [Nt.zeroF, Nt.zeroN], by simp [Nt.zeroF, Nt.zeroN, ByteArray.size]⟩

end Go.Proofs.YtcmbppjfpdkblaaGreatDoor
