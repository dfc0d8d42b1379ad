/- Parts of these proofs, laid together. -/
import Derived.Test.YtcmbppjfpdkblaaGreatDoorGN
import Derived.Test.YtcmbppjfpdkblaaGreatDoorGE
import Derived.Test.YtcmbppjfpdkblaaGreatDoorGC
import Derived.Test.YtcmbppjfpdkblaaGreatDoorGX
import Derived.Test.YtcmbppjfpdkblaaGreatDoorGH
import Derived.Test.YtcmbppjfpdkblaaGreatDoorGL
import Derived.Test.YtcmbppjfpdkblaaGreatDoorGR
import Derived.BigRegion
/- The document's numbers, one behind the other. -/
namespace Go.Proofs.YtcmbppjfpdkblaaGreatDoor
open Go.RowKit

theorem rnL_snoc (l : List UInt8) : ∀ (m p : Nat), Nt.rnL l (m + 1) p = Nt.rnL l m p ++ [((Pk.takeNum l (Nt.rnP l m p)).1 : Int)] ∧ Nt.rnP l (m + 1) p = (Pk.takeNum l (Nt.rnP l m p)).2.1 ∧ Nt.rnB l (m + 1) p = (Nt.rnB l m p && (decide ((Pk.takeNum l (Nt.rnP l m p)).2.2 = 0) && decide ((Pk.takeNum l (Nt.rnP l m p)).1 ≤ 1000000000))) := by
  intro m
  induction m with
  | zero =>
    intro p
    refine ⟨rfl, rfl, ?_⟩
    rw [Nt.rnB, Nt.rnB, Nt.rnP, Nt.rnB, Bool.and_true, Bool.true_and]
  | succ m ih =>
    intro p
    obtain ⟨i1, i2, i3⟩ := ih (Pk.takeNum l p).2.1
    refine ⟨?_, ?_, ?_⟩
    · rw [Nt.rnL, i1]; rfl
    · rw [Nt.rnP, i2]; rfl
    · rw [Nt.rnB, i3]
      show _ = (decide ((Pk.takeNum l p).2.2 = 0) && decide ((Pk.takeNum l p).1 ≤ 1000000000) && Nt.rnB l m (Pk.takeNum l p).2.1 && _)
      rw [Bool.and_assoc (decide ((Pk.takeNum l p).2.2 = 0) && decide ((Pk.takeNum l p).1 ≤ 1000000000))]
      rfl
theorem rnB_mono (l : List UInt8) (m k p : Nat) (h : Nt.rnB l k p = false) (hk : k ≤ m) : Nt.rnB l m p = false := by
  induction m with
  | zero => obtain rfl : k = 0 := by omega
            exact h
  | succ m ih =>
    by_cases e : k = m + 1
    · subst e; exact h
    · rw [(rnL_snoc l m p).2.2, ih (by omega)]; rfl

/- what numbers answers -/
def RnR (l : List UInt8) (m p : Nat) (w : World) (e : Ending) (w' : World) : Prop :=
  ((Nt.rnB l m p = true ∧ ∃ ad cap, e = .returned (.tuple #[.slice ad m cap, .int .i64 (Nt.rnP l m p : Nat), .bool true]) ∧ m ≤ cap ∧ IntsAt w' ad (Nt.rnL l m p)) ∨
   (Nt.rnB l m p = false ∧ e = .returned (.tuple #[.slice none 0 0, .int .i64 0, .bool false]))) ∧ Gr w w'

set_option maxHeartbeats 2000000 in
set_option maxRecDepth 100000 in
theorem rNumbers_any (s : ByteArray) (p m : Nat) (w : World) (hs : s.size ≤ 140737488355328) (hm : m ≤ 100) :
    Calls Tryz.prog 50 #[.string s, .int .i64 (p : Int), .int .i64 (m : Int)] w fun e w' => RnR s.data.toList m p w e w' := by
  obtain ⟨i0, hi, hz0, hz1, hz2⟩ := info_parts infoInt
  have HT : Hid (∀ (q : Nat) (w' : World), Calls Tryz.prog 73 #[.string s, .int .i64 (q : Int)] w' fun e w2 => e = .returned (.tuple #[.int .u64 (Pk.takeNum s.data.toList q).1, .int .i64 (Pk.takeNum s.data.toList q).2.1, .int .i64 (Pk.takeNum s.data.toList q).2.2]) ∧ Gr w' w2) := fun q w' => refTakeNumber_any s q w' hs
  generalize s.data.toList = l at *
  clear hs
  go_enter Tryz.func50, Tryz.ntmps50
  go_wp2
  go_loopw [1, 9, 10] (fun a o i wr => ∃ k : Nat, k ≤ m ∧ i = .int .i64 k ∧ a = .int .i64 (Nt.rnP l k p : Nat) ∧ Nt.rnB l k p = true ∧ wr.ownsRow w.heap.size 3 1 o k (intV (Nt.rnL l k p)) ∧ Below w.heap.size w wr)
    (fun _ _ i _ => m - (intOf i).toNat)
  case atStart => exact ⟨0, by omega, rfl, rfl, rfl, World.ownsRow_nil _ _ _ _, Below.refl _ _⟩
  case round =>
    obtain ⟨k, hk, rfl, rfl, hB, hown, hb⟩ := hrel
    have hbs := hb.size
    by_cases hlt : k < m
    · obtain ⟨s1, s2, s3⟩ := rnL_snoc l k p
      rw [hB, Bool.true_and] at s3
      have HT1 : Hid (∀ (w' : World), Calls Tryz.prog 73 #[.string s, .int .i64 (Nt.rnP l k p : Nat)] w' fun e w2 => e = .returned (.tuple #[.int .u64 (Pk.takeNum l (Nt.rnP l k p : Nat)).1, .int .i64 (Pk.takeNum l (Nt.rnP l k p : Nat)).2.1, .int .i64 (Pk.takeNum l (Nt.rnP l k p : Nat)).2.2]) ∧ Gr w' w2) := fun w' => HT.out _ w'
      have HM : Hid (Nt.rnB l (k + 1) p = false → Nt.rnB l m p = false) := fun h => rnB_mono l m (k + 1) p h (by omega)
      have HS1 : Hid (intV (Nt.rnL l (k + 1) p) = intV (Nt.rnL l k p) ++ [.int .i64 ((Pk.takeNum l (Nt.rnP l k p : Nat)).1 : Int)]) := by show _ = _; rw [s1]; simp [intV]
      have HS2 : Hid (Nt.rnP l (k + 1) p = (Pk.takeNum l (Nt.rnP l k p : Nat)).2.1) := s2
      have HS3 : Hid (Nt.rnB l (k + 1) p = (decide ((Pk.takeNum l (Nt.rnP l k p : Nat)).2.2 = 0) && decide ((Pk.takeNum l (Nt.rnP l k p : Nat)).1 ≤ 1000000000))) := s3
      generalize (Pk.takeNum l (Nt.rnP l k p : Nat)).1 = v at *
      generalize (Pk.takeNum l (Nt.rnP l k p : Nat)).2.1 = t at *
      generalize (Pk.takeNum l (Nt.rnP l k p : Nat)).2.2 = ev at *
      clear s1 s2 s3 hB HT
      have hki : (k : Int) < (m : Int) := by omega
      by_cases he : ev = 0
      · subst he
        by_cases hv : v ≤ 1000000000
        · have hvI : ¬ (1000000000 : Int) < (v : Int) := by omega
          have HB2 : Hid (Nt.rnB l (k + 1) p = true) := by show _ = _; rw [HS3.out, decide_eq_true hv]; rfl
          have hwr : IntKind.i64.wrap (v : Int) = (v : Int) := by rw [IntKind.wrap_i64]; omega
          have hm1 : k + 1 ≤ maxLen := by unfold maxLen; omega
          go_wp2_with fail
          refine (HT1.out _).mono ?_
          rintro e1 w1 ⟨rfl, hg1⟩
          have hown1 := hown.kept hg1.grownBy (own_or _)
          have hb1 : Below w.heap.size w w1 := hb.trans (hg1.below.mono hbs)
          have hbs1 := hb1.size
          clear hg1
          go_wp2_with (first
            | (at_builtin; refine wpList_append_own _ rfl _ _ 52 rfl w.heap.size 3 i0 (.int .i64 0) 1 8 Tryz.underlying52 hi hz0 hz1 hz2 rfl (by decide) _ _ _ rfl (hown1.alloc _) ⟨w1.heap.size, 0, none⟩ 1 1 [.int .i64 (v : Int)] rfl rfl (cell_one_at _ _ _ _ (by simp)) (by intro u hu; simp at hu; subst hu; rfl) hm1 (by omega) (by simp; omega) ?_)
            | fail)
          intro v' w2 hown' hgrow _
          go_wp2
          go_roundw
          case rel =>
            exact ⟨k + 1, by omega, by go_num, by rw [HS2.out], HB2.out, by rw [HS1.out]; exact hown', (hb1.alloc hbs1 _).grown hgrow (by simp; omega) (fun k hk => (hown1.lt k hk).1)⟩
          case measure => simp [intOf]; omega
        · have hvI : (1000000000 : Int) < (v : Int) := by omega
          have HB2 : Hid (Nt.rnB l m p = false) := HM.out (by rw [HS3.out, decide_eq_false hv]; rfl)
          go_wp2_with fail
          refine (HT1.out _).mono ?_
          rintro e1 w1 ⟨rfl, hg1⟩
          have hb1 : Below w.heap.size w w1 := hb.trans (hg1.below.mono hbs)
          clear hg1 hown
          go_wp2
          go_ret3
          exact ⟨Or.inr ⟨HB2.out, rfl⟩, ⟨hb1⟩⟩
      · have he' : ((ev : Int) != 0) = true := by rw [bne_iff_ne]; omega
        have HB2 : Hid (Nt.rnB l m p = false) := HM.out (by rw [HS3.out, decide_eq_false he]; rfl)
        go_wp2_with fail
        refine (HT1.out _).mono ?_
        rintro e1 w1 ⟨rfl, hg1⟩
        have hb1 : Below w.heap.size w w1 := hb.trans (hg1.below.mono hbs)
        clear hg1 hown
        go_wp2
        go_ret3
        exact ⟨Or.inr ⟨HB2.out, rfl⟩, ⟨hb1⟩⟩
    · have hkl : k = m := by omega
      subst hkl
      have hln := Nt.rn_len l k p
      have key : ∀ {u : Value}, wr.ownsRow w.heap.size 3 1 u k (intV (Nt.rnL l k p)) → ∃ ad2 cap2, u = .slice ad2 k cap2 ∧ k ≤ cap2 ∧ IntsAt wr ad2 (Nt.rnL l k p) := by
        intro u h
        have := own_ints (l := Nt.rnL l k p) (by rw [hln]; exact h)
        rw [hln] at this
        exact this
      obtain ⟨ad2, cap2, rfl, hcp, hia⟩ := key hown
      have HI : Hid (IntsAt wr ad2 (Nt.rnL l k p)) := hia
      have HB3 : Hid (Nt.rnB l k p = true) := hB
      have HG : Hid (Gr w wr) := ⟨hb⟩
      clear hown key hia hB hb
      go_wp2
      go_ret3
      exact ⟨Or.inl ⟨HB3.out, ad2, cap2, rfl, hcp, HI.out⟩, HG.out⟩
end Go.Proofs.YtcmbppjfpdkblaaGreatDoor
/- What the document's Decode answers. -/
namespace Go.Proofs.YtcmbppjfpdkblaaGreatDoor
open Go.RowKit

/- what the document's Decode answers -/
def RdcR (s : ByteArray) (w : World) (e : Ending) (w' : World) : Prop :=
  ∃ ad cap, e = .returned (.tuple #[.agg (fmC (Nt.dcF s.data.toList) ad cap).toArray, .int .i64 (Nt.dcE s.data.toList)]) ∧ HopsAt w' ad (Nt.dcF s.data.toList).n.L ∧ Gr w w'

theorem list6 (l : List Int) (h : l.length = 6) : ∃ a0 a1 a2 a3 a4 a5, l = [a0, a1, a2, a3, a4, a5] := by
  match l, h with
  | [a0, a1, a2, a3, a4, a5], _ => exact ⟨a0, a1, a2, a3, a4, a5, rfl⟩
theorem list1 (l : List Int) (h : l.length = 1) : ∃ a0, l = [a0] := by
  match l, h with
  | [a0], _ => exact ⟨a0, rfl⟩
theorem ints6 {w : World} {ad : Option Addr} {a0 a1 a2 a3 a4 a5 : Int} (h : IntsAt w ad [a0, a1, a2, a3, a4, a5]) : ∃ b off, ad = some ⟨b, off, none⟩ ∧ b < w.heap.size ∧ w.cell? ⟨b, off, none⟩ = some (.int .i64 a0) ∧ w.cell? ⟨b, off + 1, none⟩ = some (.int .i64 a1) ∧ w.cell? ⟨b, off + 2, none⟩ = some (.int .i64 a2) ∧ w.cell? ⟨b, off + 3, none⟩ = some (.int .i64 a3) ∧ w.cell? ⟨b, off + 4, none⟩ = some (.int .i64 a4) ∧ w.cell? ⟨b, off + 5, none⟩ = some (.int .i64 a5) := by
  obtain ⟨b, off, rfl, hb, c0⟩ := h 0 (by simp)
  obtain ⟨_, _, e, _, c1⟩ := h 1 (by simp); cases e
  obtain ⟨_, _, e, _, c2⟩ := h 2 (by simp); cases e
  obtain ⟨_, _, e, _, c3⟩ := h 3 (by simp); cases e
  obtain ⟨_, _, e, _, c4⟩ := h 4 (by simp); cases e
  obtain ⟨_, _, e, _, c5⟩ := h 5 (by simp); cases e
  exact ⟨b, off, rfl, hb, c0, c1, c2, c3, c4, c5⟩
theorem ints1 {w : World} {ad : Option Addr} {a0 : Int} (h : IntsAt w ad [a0]) : ∃ b off, ad = some ⟨b, off, none⟩ ∧ b < w.heap.size ∧ w.cell? ⟨b, off, none⟩ = some (.int .i64 a0) := by
  obtain ⟨b, off, rfl, hb, c0⟩ := h 0 (by simp)
  exact ⟨b, off, rfl, hb, c0⟩
theorem takeText_len (l : List UInt8) (p : Int) : (Pk.takeText l p).1.length ≤ l.length := by
  rcases Pk.takeText_spec l p with h | h
  · exact h.2.2.2.2
  · rw [h.1]; simp
theorem rf_small (l : List UInt8) : (Nt.rfF l).n.L.length ≤ 4 ∧ (Nt.rfF l).n.d.size ≤ l.length := by
  show (Nt.rfN l).L.length ≤ 4 ∧ (Nt.rfN l).d.size ≤ l.length
  unfold Nt.rfN
  split
  · exact ⟨by simp [Nt.zeroN], by simp [Nt.zeroN, ByteArray.size]⟩
  · refine ⟨?_, ?_⟩
    · show (readL _).length ≤ 4
      exact readH_len 4 _ _
    · show (⟨(Nt.rfd l).1.toArray⟩ : ByteArray).size ≤ l.length
      have := takeText_len l (Nt.rfi l).2.1
      simpa [ByteArray.size, Nt.rfd] using this

set_option maxHeartbeats 20000000 in
set_option maxRecDepth 100000 in
theorem rDecode_any (s : ByteArray) (w : World) (hs : s.size ≤ 140737488355328) :
    Calls Tryz.prog 21 #[.string s] w fun e w' => RdcR s w e w' := by
  have hsz : s.data.toList.length = s.size := by simp
  have HO : Hid (∀ w', Calls Tryz.prog 49 #[.string s, .int .i64 0, .int .i64 1] w' fun e w2 => e = .returned (.tuple #[.string ⟨(Sl.openE s.data.toList 0 1).1.toArray⟩, .int .i64 (Sl.openE s.data.toList 0 1).2.1, .int .i64 (Sl.openE s.data.toList 0 1).2.2]) ∧ Gr w' w2) := fun w' => refOpen_any s 0 1 w' hs
  have hrd := Nt.rf_dec s.data.toList
  have HF : Hid (Nt.dcF s.data.toList = if (Sl.openE s.data.toList 0 1).2.2 = 0 ∧ Nt.dcB s.data.toList = true then Nt.rdF (Sl.openE s.data.toList 0 1).1 else Nt.zeroF) := rfl
  have HE : Hid (Nt.dcE s.data.toList = if (Sl.openE s.data.toList 0 1).2.2 = 0 then (if Nt.dcB s.data.toList = true then 0 else 130) else ((Sl.openE s.data.toList 0 1).2.2 : Int)) := rfl
  have hlen : (Sl.openE s.data.toList 0 1).2.2 = 0 → (Sl.openE s.data.toList 0 1).1.length ≤ 30000 := fun h0 => (Sl.open_form s.data.toList 0 1 (Sl.openE s.data.toList 0 1).1 (Sl.openE s.data.toList 0 1).2.1 (show Sl.openE s.data.toList 0 1 = _ from Prod.ext rfl (Prod.ext rfl h0))).1
  have HG : Hid (Nt.rfG s.data.toList = (Nt.rfB (Sl.openE s.data.toList 0 1).1 && Nt.frB (Nt.rfF (Sl.openE s.data.toList 0 1).1) && decide (Nt.encL (Nt.rfF (Sl.openE s.data.toList 0 1).1) = s.data.toList))) := rfl
  unfold RdcR
  generalize Nt.dcF s.data.toList = RF at *
  generalize Nt.dcE s.data.toList = RE at *
  generalize Nt.dcB s.data.toList = RB at *
  generalize Nt.rfG s.data.toList = RG at *
  generalize (Sl.openE s.data.toList 0 1).1 = B at *
  generalize (Sl.openE s.data.toList 0 1).2.1 = q at *
  generalize (Sl.openE s.data.toList 0 1).2.2 = eo at *
  by_cases h0 : eo = 0
  · subst h0
    rw [if_pos rfl] at HE
    have hB := hlen rfl
    obtain ⟨g1, g2⟩ := hrd rfl
    have HBAD : Hid ((Nt.rfB B && Nt.frB (Nt.rfF B) && decide (Nt.encL (Nt.rfF B) = s.data.toList)) = false → RF = Nt.zeroF ∧ RE = 130) := by
      intro h
      rw [← HG.out] at h
      rw [h] at g1
      have e1 := HF.out
      have e2 := HE.out
      rw [← g1] at e1 e2
      exact ⟨by rw [e1, if_neg (by simp)], by rw [e2]; rfl⟩
    have HOK : Hid ((Nt.rfB B && Nt.frB (Nt.rfF B) && decide (Nt.encL (Nt.rfF B) = s.data.toList)) = true → RF = Nt.rfF B ∧ RE = 0) := by
      intro h
      rw [← HG.out] at h
      have e1 := g2 h
      rw [h] at g1
      have e2 := HE.out
      rw [← g1] at e2
      exact ⟨e1.symm, by rw [e2]; rfl⟩
    clear HF HE HG g1 g2 hrd hlen
    have hrs := rf_small B
    have HN6 : Hid (∀ w', Calls Tryz.prog 50 #[.string ⟨B.toArray⟩, .int .i64 0, .int .i64 6] w' fun e w2 => RnR B 6 0 w' e w2) := fun w' => rNumbers_any ⟨B.toArray⟩ 0 6 w' (by simp [ByteArray.size]; omega) (by omega)
    have HNk : Hid (∀ (p : Nat) w', Calls Tryz.prog 50 #[.string ⟨B.toArray⟩, .int .i64 (p : Int), .int .i64 1] w' fun e w2 => RnR B 1 p w' e w2) := fun p w' => rNumbers_any ⟨B.toArray⟩ p 1 w' (by simp [ByteArray.size]; omega) (by omega)
    have HT : Hid (∀ (p : Nat) w', Calls Tryz.prog 51 #[.string ⟨B.toArray⟩, .int .i64 (p : Int)] w' fun e w2 => e = .returned (.tuple #[.string ⟨(Pk.takeText B p).1.toArray⟩, .int .i64 (Pk.takeText B p).2.1, .int .i64 (Pk.takeText B p).2.2]) ∧ Gr w' w2) := fun p w' => refTakeText_any ⟨B.toArray⟩ p w' (by simp [ByteArray.size]; omega)
    have HPS : Hid (∀ (t : List UInt8) w', t.length ≤ 30000 → Calls Tryz.prog 52 #[.string ⟨t.toArray⟩] w' fun e w2 =>
        ((parB t = true ∧ ∃ ad2 cap2, e = .returned (.tuple #[.agg #[.int .i64 (readR t).1, .int .i64 (readR t).2, .slice ad2 (readL t).length cap2], .int .i64 0]) ∧ HopsAt w2 ad2 (readL t) ∧ ∀ a, ad2 = some a → w'.heap.size ≤ a.block) ∨
         (parB t = false ∧ e = .returned (.tuple #[.agg #[.int .i64 0, .int .i64 0, .slice none 0 0], .int .i64 30]))) ∧ Gr w' w2) := by
      intro t w' ht
      refine (refParse_new ⟨t.toArray⟩ w' (by simp [ByteArray.size]; omega)).mono ?_
      rintro e w2 ⟨⟨r', n', L', ad2, cap2, h1, h2, h3, h4⟩ | ⟨h1, h2⟩, hg⟩
      · have h1 : refP t = some (r', n', L') := h1
        rw [ref_par] at h1
        by_cases hp : parB t = true
        · rw [if_pos hp] at h1
          simp only [Option.some.injEq, Prod.mk.injEq] at h1
          obtain ⟨rfl, rfl, rfl⟩ := h1
          exact ⟨Or.inl ⟨hp, ad2, cap2, h2, h3, h4⟩, hg⟩
        · rw [if_neg hp] at h1; cases h1
      · have h1 : refP t = none := h1
        rw [ref_par] at h1
        by_cases hp : parB t = true
        · rw [if_pos hp] at h1; cases h1
        · exact ⟨Or.inr ⟨by simpa using hp, h2⟩, hg⟩
    have htl : ∀ p : Int, (Pk.takeText B p).1.length ≤ 30000 := fun p => Nat.le_trans (takeText_len B p) hB
    have HEN : Hid (∀ (w' : World) (ad : Option Addr) (cap : Nat), HopsAt w' ad (Nt.rfF B).n.L → Calls Tryz.prog 17 #[.agg (fmC (Nt.rfF B) ad cap).toArray] w' fun e w2 => e = .returned (.tuple #[.string ⟨(Nt.encL (Nt.rfF B)).toArray⟩, .int .i64 (if Nt.frB (Nt.rfF B) = true then 0 else 130)]) ∧ Gr w' w2) := fun w' ad cap h => rEncode_any (Nt.rfF B).f (Nt.rfF B).t (Nt.rfF B).e (Nt.rfF B).s (Nt.rfF B).a (Nt.rfF B).c (Nt.rfF B).n.k (Nt.rfF B).n.r (Nt.rfF B).n.n (Nt.rfF B).n.L (Nt.rfF B).n.d (Nt.rfF B).n.y ad cap w' h (by have := hrs.1; omega) (by have := hrs.2; omega)
    have HRF : Hid (Nt.rfF B = ⟨(Nt.rnL B 6 0).getD 0 0, (Nt.rnL B 6 0).getD 1 0, (Nt.rnL B 6 0).getD 2 0, (Nt.rnL B 6 0).getD 3 0, (Nt.rnL B 6 0).getD 4 0, (Nt.rnL B 6 0).getD 5 0, Nt.rfN B⟩) := rfl
    have HRB : Hid (Nt.rfB B = (Nt.rnB B 6 0 && (decide ((Nt.rnL B 6 0).getD 3 0 = 0) || (Nt.rnB B 1 (Nt.rfp B) && decide ((Nt.rfi B).2.2 = 0) && parB (Nt.rfi B).1 && decide ((Nt.rfd B).2.2 = 0) && Nt.rnB B 1 (Nt.rfd B).2.1)))) := rfl
    have HRN : Hid (Nt.rfN B = if (Nt.rnL B 6 0).getD 3 0 = 0 then Nt.zeroN else ⟨(Nt.rnL B 1 (Nt.rfp B)).getD 0 0, (readR (Nt.rfi B).1).1, (readR (Nt.rfi B).1).2, readL (Nt.rfi B).1, ⟨(Nt.rfd B).1.toArray⟩, (Nt.rnL B 1 (Nt.rfd B).2.1).getD 0 0⟩) := rfl
    have HRP : Hid (Nt.rnP B 6 0 = Nt.rfp B) := rfl
    have HRK : Hid (Nt.rfk B = if Nt.rnB B 1 (Nt.rfp B) = true then Nt.rnP B 1 (Nt.rfp B) else 0) := rfl
    have HRI : Hid (Pk.takeText B (Nt.rfk B) = Nt.rfi B) := rfl
    have HRD : Hid (Pk.takeText B (Nt.rfi B).2.1 = Nt.rfd B) := rfl
    obtain ⟨a0, a1, a2, a3, a4, a5, h6⟩ := list6 _ (Nt.rn_len B 6 0)
    rw [h6] at HRF HRB HRN
    simp only [List.getD_cons_zero, List.getD_cons_succ] at HRF HRB HRN
    generalize Nt.rfF B = FF at *
    generalize Nt.frB FF = bF at *
    generalize Nt.encL FF = EL at *
    clear hrs hs
    go_enter Tryz.func21, Tryz.ntmps21
    go_wp2_with fail
    refine (HO.out _).mono ?_
    rintro e1 w1 ⟨rfl, hg1⟩
    have G1 : Hid (Gr w w1) := (by repeat (first | exact Gr.refl _ | refine Gr.alloc ?_ | refine Gr.drew ?_ | refine Gr.trans ?_ (by assumption)))
    have R1 := Lib.hid ((Cs.new w [.int .i64 0, .int .i64 0, .int .i64 0, .int .i64 0, .int .i64 0, .int .i64 0, .int .i64 0, .int .i64 0, .int .i64 0, .slice none 0 0, .string ⟨#[]⟩, .int .i64 0] 39 _ rfl).gr hg1)
    clear hg1
    go_wp2_with fail
    refine (HN6.out _).mono ?_
    rintro e2 w2 ⟨hc6, hg2⟩
    have G2 : Hid (Gr w w2) := G1.out.trans hg2
    have R2 := Lib.hid (R1.out.gr hg2)
    clear hg2 G1 R1
    rcases hc6 with ⟨hb6, adl, capl, rfl, hcl, hia⟩ | ⟨hb6, rfl⟩
    · rw [h6] at hia
      obtain ⟨lb, lo, rfl, hlb, k0, k1, k2, k3, k4, k5⟩ := ints6 hia
      clear hia
      rw [hb6, Bool.true_and] at HRB
      have hrl := R2.out.lt
      have hcl6 : (6 : Int) ≤ capl := by omega
      rw [HRP.out]
      go_wp2
      go_region_held3 (fun w' => Gr w2 w' ∧ w'.cell? ⟨lb, lo, none⟩ = some (.int .i64 a0) ∧ w'.cell? ⟨lb, lo + 1, none⟩ = some (.int .i64 a1) ∧ w'.cell? ⟨lb, lo + 2, none⟩ = some (.int .i64 a2) ∧ w'.cell? ⟨lb, lo + 3, none⟩ = some (.int .i64 a3) ∧ w'.cell? ⟨lb, lo + 4, none⟩ = some (.int .i64 a4) ∧ w'.cell? ⟨lb, lo + 5, none⟩ = some (.int .i64 a5)) ((go_split_ands; exact ⟨(by (repeat' (first | with_reducible exact Gr.refl _ | with_reducible refine Gr.set ?_ _ ?_ _ | with_reducible refine Gr.alloc ?_ | with_reducible refine Gr.drew ?_ | with_reducible refine Gr.trans ?_ (by assumption))) <;> (first | (simp; done) | (simp; omega) | omega)), Gr.keep (W := w2) (by (repeat' (first | with_reducible exact Gr.refl _ | with_reducible refine Gr.set ?_ _ ?_ _ | with_reducible refine Gr.alloc ?_ | with_reducible refine Gr.drew ?_ | with_reducible refine Gr.trans ?_ (by assumption))) <;> (first | (simp; done) | (simp; omega) | omega)) k0, Gr.keep (W := w2) (by (repeat' (first | with_reducible exact Gr.refl _ | with_reducible refine Gr.set ?_ _ ?_ _ | with_reducible refine Gr.alloc ?_ | with_reducible refine Gr.drew ?_ | with_reducible refine Gr.trans ?_ (by assumption))) <;> (first | (simp; done) | (simp; omega) | omega)) k1, Gr.keep (W := w2) (by (repeat' (first | with_reducible exact Gr.refl _ | with_reducible refine Gr.set ?_ _ ?_ _ | with_reducible refine Gr.alloc ?_ | with_reducible refine Gr.drew ?_ | with_reducible refine Gr.trans ?_ (by assumption))) <;> (first | (simp; done) | (simp; omega) | omega)) k2, Gr.keep (W := w2) (by (repeat' (first | with_reducible exact Gr.refl _ | with_reducible refine Gr.set ?_ _ ?_ _ | with_reducible refine Gr.alloc ?_ | with_reducible refine Gr.drew ?_ | with_reducible refine Gr.trans ?_ (by assumption))) <;> (first | (simp; done) | (simp; omega) | omega)) k3, Gr.keep (W := w2) (by (repeat' (first | with_reducible exact Gr.refl _ | with_reducible refine Gr.set ?_ _ ?_ _ | with_reducible refine Gr.alloc ?_ | with_reducible refine Gr.drew ?_ | with_reducible refine Gr.trans ?_ (by assumption))) <;> (first | (simp; done) | (simp; omega) | omega)) k4, Gr.keep (W := w2) (by (repeat' (first | with_reducible exact Gr.refl _ | with_reducible refine Gr.set ?_ _ ?_ _ | with_reducible refine Gr.alloc ?_ | with_reducible refine Gr.drew ?_ | with_reducible refine Gr.trans ?_ (by assumption))) <;> (first | (simp; done) | (simp; omega) | omega)) k5⟩)) (fail)
      have G3 : Hid (Gr w (w2.alloc (.cells #[.int .i64 a0, .int .i64 a1, .int .i64 a2, .int .i64 a3, .int .i64 a4, .int .i64 a5, .int .i64 0, .int .i64 0, .int .i64 0, .slice none 0 0, .string ⟨#[]⟩, .int .i64 0] 39)).drew) := G2.out.alloc.drew
      have R3 := Lib.hid (R2.out.alloc (o := .cells #[.int .i64 a0, .int .i64 a1, .int .i64 a2, .int .i64 a3, .int .i64 a4, .int .i64 a5, .int .i64 0, .int .i64 0, .int .i64 0, .slice none 0 0, .string ⟨#[]⟩, .int .i64 0] 39)).drew
      have F3 := Lib.hid (Cs.new w2 [.int .i64 a0, .int .i64 a1, .int .i64 a2, .int .i64 a3, .int .i64 a4, .int .i64 a5, .int .i64 0, .int .i64 0, .int .i64 0, .slice none 0 0, .string ⟨#[]⟩, .int .i64 0] 39 _ rfl).drew
      have hf3 := F3.out.lt
      generalize (w2.alloc (.cells #[.int .i64 a0, .int .i64 a1, .int .i64 a2, .int .i64 a3, .int .i64 a4, .int .i64 a5, .int .i64 0, .int .i64 0, .int .i64 0, .slice none 0 0, .string ⟨#[]⟩, .int .i64 0] 39)).drew = w3 at *
      generalize hfb : w2.heap.size = fb at *
      clear k0 k1 k2 k3 k4 k5 hlb G2 R2
      by_cases hz : a3 = 0
      · subst hz
        rw [decide_eq_true (rfl : (0 : Int) = 0), Bool.true_or] at HRB
        rw [HRB.out, Bool.true_and] at HBAD HOK
        rw [if_pos rfl] at HRN
        rw [HRN.out] at HRF
        rw [HRF.out] at HEN
        simp only [fmC, Nt.zeroN, List.length_nil] at HEN
        clear HRB HRN HNk HT HPS HRK HRI HRD HRP h6 hfb
        have fc0 := F3.out.at_ 0 _ rfl
        have fc1 := F3.out.at_ 1 _ rfl
        have fc2 := F3.out.at_ 2 _ rfl
        have fc3 := F3.out.at_ 3 _ rfl
        have fc4 := F3.out.at_ 4 _ rfl
        have fc5 := F3.out.at_ 5 _ rfl
        have fc6 := F3.out.at_ 6 _ rfl
        have fc7 := F3.out.at_ 7 _ rfl
        have fc8 := F3.out.at_ 8 _ rfl
        have fc9 := F3.out.at_ 9 _ rfl
        have fc10 := F3.out.at_ 10 _ rfl
        have fc11 := F3.out.at_ 11 _ rfl
        have fclt := F3.out.lt
        go_wp2_with fail
        refine (HEN.out _ none 0 (HopsAt.nil (w := w3))).mono ?_
        rintro ez wz ⟨rfl, hgz⟩
        have GZ : Hid (Gr w wz) := G3.out.trans hgz
        have RZ := R3.out.gr hgz
        have FZ := F3.out.gr hgz
        have IZ : Hid (HopsAt wz none []) := ((HopsAt.nil (w := w3))).gr hgz
        clear hgz fc0 fc1 fc2 fc3 fc4 fc5 fc6 fc7 fc8 fc9 fc10 fc11 fclt
        cases bF with
        | false =>
          rw [show (if false = true then (0 : Int) else 130) = 130 from rfl]
          have HV := Lib.hid (HBAD.out (by simp))
          have RL := RZ
          have c0 := RL.at_ 0 _ rfl
          have c1 := RL.at_ 1 _ rfl
          have c2 := RL.at_ 2 _ rfl
          have c3 := RL.at_ 3 _ rfl
          have c4 := RL.at_ 4 _ rfl
          have c5 := RL.at_ 5 _ rfl
          have c6 := RL.at_ 6 _ rfl
          have c7 := RL.at_ 7 _ rfl
          have c8 := RL.at_ 8 _ rfl
          have c9 := RL.at_ 9 _ rfl
          have c10 := RL.at_ 10 _ rfl
          have c11 := RL.at_ 11 _ rfl
          have cf0 := RL.fz 0 (by simp)
          have cf1 := RL.fz 1 (by simp)
          have cf2 := RL.fz 2 (by simp)
          have cf3 := RL.fz 3 (by simp)
          have cf4 := RL.fz 4 (by simp)
          have cf5 := RL.fz 5 (by simp)
          have cf6 := RL.fz 6 (by simp)
          have cf7 := RL.fz 7 (by simp)
          have cf8 := RL.fz 8 (by simp)
          have cf9 := RL.fz 9 (by simp)
          have cf10 := RL.fz 10 (by simp)
          have cf11 := RL.fz 11 (by simp)
          have clt := RL.lt
          have GL : Gr w _ := GZ.out
          clear RL
          go_wp2
          exact bodyPost_ret (v := .tuple #[.agg #[.int .i64 0, .int .i64 0, .int .i64 0, .int .i64 0, .int .i64 0, .int .i64 0, .int .i64 0, .int .i64 0, .int .i64 0, .slice none 0 0, .string ⟨#[]⟩, .int .i64 0], .int .i64 130]) (by simp [results, Tryz.results21, go_sem, *]) rfl ⟨none, 0, by rw [HV.out.1, HV.out.2]; rfl, by rw [HV.out.1]; exact HopsAt.nil, GL.set12 _ (Nat.le_refl _) _ _ _ _ _ _ _ _ _ _ _ _⟩
        | true =>
          rw [show (if true = true then (0 : Int) else 130) = 0 from rfl]
          by_cases hq : EL = s.data.toList
          · have HV := Lib.hid (HOK.out (by simp [hq]))
            have hqe : (⟨EL.toArray⟩ : ByteArray) = s := by rw [hq]
            rw [hqe]
            clear hqe hq
            have c0 := RZ.at_ 0 _ rfl
            have c1 := RZ.at_ 1 _ rfl
            have c2 := RZ.at_ 2 _ rfl
            have c3 := RZ.at_ 3 _ rfl
            have c4 := RZ.at_ 4 _ rfl
            have c5 := RZ.at_ 5 _ rfl
            have c6 := RZ.at_ 6 _ rfl
            have c7 := RZ.at_ 7 _ rfl
            have c8 := RZ.at_ 8 _ rfl
            have c9 := RZ.at_ 9 _ rfl
            have c10 := RZ.at_ 10 _ rfl
            have c11 := RZ.at_ 11 _ rfl
            have cf0 := RZ.fz 0 (by simp)
            have cf1 := RZ.fz 1 (by simp)
            have cf2 := RZ.fz 2 (by simp)
            have cf3 := RZ.fz 3 (by simp)
            have cf4 := RZ.fz 4 (by simp)
            have cf5 := RZ.fz 5 (by simp)
            have cf6 := RZ.fz 6 (by simp)
            have cf7 := RZ.fz 7 (by simp)
            have cf8 := RZ.fz 8 (by simp)
            have cf9 := RZ.fz 9 (by simp)
            have cf10 := RZ.fz 10 (by simp)
            have cf11 := RZ.fz 11 (by simp)
            have clt := RZ.lt
            have q0 := FZ.at_ 0 _ rfl
            have q1 := FZ.at_ 1 _ rfl
            have q2 := FZ.at_ 2 _ rfl
            have q3 := FZ.at_ 3 _ rfl
            have q4 := FZ.at_ 4 _ rfl
            have q5 := FZ.at_ 5 _ rfl
            have q6 := FZ.at_ 6 _ rfl
            have q7 := FZ.at_ 7 _ rfl
            have q8 := FZ.at_ 8 _ rfl
            have q9 := FZ.at_ 9 _ rfl
            have q10 := FZ.at_ 10 _ rfl
            have q11 := FZ.at_ 11 _ rfl
            have qf0 := FZ.fz 0 (by simp)
            have qf1 := FZ.fz 1 (by simp)
            have qf2 := FZ.fz 2 (by simp)
            have qf3 := FZ.fz 3 (by simp)
            have qf4 := FZ.fz 4 (by simp)
            have qf5 := FZ.fz 5 (by simp)
            have qf6 := FZ.fz 6 (by simp)
            have qf7 := FZ.fz 7 (by simp)
            have qf8 := FZ.fz 8 (by simp)
            have qf9 := FZ.fz 9 (by simp)
            have qf10 := FZ.fz 10 (by simp)
            have qf11 := FZ.fz 11 (by simp)
            have qlt := FZ.lt
            have hA : ∀ a : Addr, none = some a → w.heap.size ≠ a.block := fun a e => by cases e
            clear RZ FZ
            go_wp2
            exact bodyPost_ret (v := .tuple #[.agg #[.int .i64 a0, .int .i64 a1, .int .i64 a2, .int .i64 0, .int .i64 a4, .int .i64 a5, .int .i64 0, .int .i64 0, .int .i64 0, .slice none 0 0, .string ⟨#[]⟩, .int .i64 0], .int .i64 0]) (by simp [results, Tryz.results21, go_sem, *]) rfl ⟨none, 0, by rw [HV.out.1, HV.out.2, HRF.out]; rfl, by rw [HV.out.1, HRF.out]; exact IZ.out.set12 _ hA _ _ _ _ _ _ _ _ _ _ _ _, GZ.out.set12 _ (Nat.le_refl _) _ _ _ _ _ _ _ _ _ _ _ _⟩
          · have HV := Lib.hid (HBAD.out (by simp [hq]))
            have hqe : (EL == s.toList) = false := by rw [ByteArray.toList_eq]; simpa using hq
            clear hq
            have RL := RZ
            have c0 := RL.at_ 0 _ rfl
            have c1 := RL.at_ 1 _ rfl
            have c2 := RL.at_ 2 _ rfl
            have c3 := RL.at_ 3 _ rfl
            have c4 := RL.at_ 4 _ rfl
            have c5 := RL.at_ 5 _ rfl
            have c6 := RL.at_ 6 _ rfl
            have c7 := RL.at_ 7 _ rfl
            have c8 := RL.at_ 8 _ rfl
            have c9 := RL.at_ 9 _ rfl
            have c10 := RL.at_ 10 _ rfl
            have c11 := RL.at_ 11 _ rfl
            have cf0 := RL.fz 0 (by simp)
            have cf1 := RL.fz 1 (by simp)
            have cf2 := RL.fz 2 (by simp)
            have cf3 := RL.fz 3 (by simp)
            have cf4 := RL.fz 4 (by simp)
            have cf5 := RL.fz 5 (by simp)
            have cf6 := RL.fz 6 (by simp)
            have cf7 := RL.fz 7 (by simp)
            have cf8 := RL.fz 8 (by simp)
            have cf9 := RL.fz 9 (by simp)
            have cf10 := RL.fz 10 (by simp)
            have cf11 := RL.fz 11 (by simp)
            have clt := RL.lt
            have GL : Gr w _ := GZ.out
            clear RL
            go_wp2
            exact bodyPost_ret (v := .tuple #[.agg #[.int .i64 0, .int .i64 0, .int .i64 0, .int .i64 0, .int .i64 0, .int .i64 0, .int .i64 0, .int .i64 0, .int .i64 0, .slice none 0 0, .string ⟨#[]⟩, .int .i64 0], .int .i64 130]) (by simp [results, Tryz.results21, go_sem, *]) rfl ⟨none, 0, by rw [HV.out.1, HV.out.2]; rfl, by rw [HV.out.1]; exact HopsAt.nil, GL.set12 _ (Nat.le_refl _) _ _ _ _ _ _ _ _ _ _ _ _⟩
      · have hz' : (a3 != 0) = true := by simpa using hz
        rw [decide_eq_false hz, Bool.false_or] at HRB
        rw [if_neg hz] at HRN
        have HN1 : Hid (∀ w', Calls Tryz.prog 50 #[.string ⟨B.toArray⟩, .int .i64 (Nt.rfp B : Nat), .int .i64 1] w' fun e w2 => RnR B 1 (Nt.rfp B) w' e w2) := fun w' => HNk.out _ w'
        have fc3 := F3.out.at_ 3 _ rfl
        go_wp2_with fail
        refine (HN1.out _).mono ?_
        rintro e4 w4 ⟨hck, hg4⟩
        have G4 := Lib.hid (G3.out.trans hg4)
        have R4 := Lib.hid (R3.out.gr hg4)
        have F4 := Lib.hid (F3.out.gr hg4)
        have hw34 := hg4.size
        clear hg4 G3 R3 F3 fc3 HN1
        rcases hck with ⟨hbk, adk, capk, rfl, hck, hkk⟩ | ⟨hbk, rfl⟩
        · obtain ⟨kv, hkv⟩ := list1 _ (Nt.rn_len B 1 (Nt.rfp B))
          rw [hkv] at hkk HRN
          simp only [List.getD_cons_zero] at HRN
          rw [hbk, Bool.true_and] at HRB
          have eI : Pk.takeText B (Nt.rnP B 1 (Nt.rfp B) : Nat) = Nt.rfi B := by rw [← HRI.out, HRK.out, if_pos hbk]
          have HTi : Hid (∀ w', Calls Tryz.prog 51 #[.string ⟨B.toArray⟩, .int .i64 (Nt.rnP B 1 (Nt.rfp B) : Nat)] w' fun e w2 => e = .returned (.tuple #[.string ⟨(Nt.rfi B).1.toArray⟩, .int .i64 (Nt.rfi B).2.1, .int .i64 (Nt.rfi B).2.2]) ∧ Gr w' w2) := fun w' => by
            have := HT.out (Nt.rnP B 1 (Nt.rfp B)) w'
            rw [eI] at this
            exact this
          have hti : (Nt.rfi B).1.length ≤ 30000 := by rw [← eI]; exact htl _
          have HTd : Hid (∀ w', Calls Tryz.prog 51 #[.string ⟨B.toArray⟩, .int .i64 ((Nt.rfi B).2.1 : Nat)] w' fun e w2 => e = .returned (.tuple #[.string ⟨(Nt.rfd B).1.toArray⟩, .int .i64 (Nt.rfd B).2.1, .int .i64 (Nt.rfd B).2.2]) ∧ Gr w' w2) := fun w' => by
            have := HT.out (Nt.rfi B).2.1 w'
            rw [HRD.out] at this
            exact this
          have HPi : Hid (∀ w', Calls Tryz.prog 52 #[.string ⟨(Nt.rfi B).1.toArray⟩] w' fun e w2 =>
              ((parB (Nt.rfi B).1 = true ∧ ∃ ad2 cap2, e = .returned (.tuple #[.agg #[.int .i64 (readR (Nt.rfi B).1).1, .int .i64 (readR (Nt.rfi B).1).2, .slice ad2 (readL (Nt.rfi B).1).length cap2], .int .i64 0]) ∧ HopsAt w2 ad2 (readL (Nt.rfi B).1) ∧ ∀ a, ad2 = some a → w'.heap.size ≤ a.block) ∨
               (parB (Nt.rfi B).1 = false ∧ e = .returned (.tuple #[.agg #[.int .i64 0, .int .i64 0, .slice none 0 0], .int .i64 30]))) ∧ Gr w' w2) := fun w' => HPS.out _ w' hti
          have HNy : Hid (∀ w', Calls Tryz.prog 50 #[.string ⟨B.toArray⟩, .int .i64 ((Nt.rfd B).2.1 : Nat), .int .i64 1] w' fun e w2 => RnR B 1 (Nt.rfd B).2.1 w' e w2) := fun w' => HNk.out _ w'
          obtain ⟨yv, hyv⟩ := list1 _ (Nt.rn_len B 1 (Nt.rfd B).2.1)
          unfold RnR at HNy
          rw [hyv] at HNy HRN
          simp only [List.getD_cons_zero] at HRN
          generalize Nt.rnP B 1 (Nt.rfp B) = pk at *
          generalize Nt.rnB B 1 (Nt.rfd B).2.1 = bY at *
          generalize Nt.rnP B 1 (Nt.rfd B).2.1 = py at *
          generalize (readR (Nt.rfi B).1).1 = ir at *
          generalize (readR (Nt.rfi B).1).2 = inn at *
          generalize readL (Nt.rfi B).1 = iL at *
          generalize parB (Nt.rfi B).1 = bP at *
          generalize (Nt.rfi B).1 = ti at *
          generalize (Nt.rfi B).2.1 = pi at *
          generalize (Nt.rfi B).2.2 = ei at *
          generalize (Nt.rfd B).1 = td at *
          generalize (Nt.rfd B).2.1 = pd at *
          generalize (Nt.rfd B).2.2 = ed at *
          have K4 := Lib.hid hkk
          clear hkk hkv hyv eI HRI HRK HRD HT HPS HNk hti h6 htl
          go_wp2_with fail
          refine (HTi.out _).mono ?_
          rintro e5 w5 ⟨rfl, hg5⟩
          have G5 := Lib.hid (G4.out.trans hg5)
          have R5 := Lib.hid (R4.out.gr hg5)
          have F5 := Lib.hid (F4.out.gr hg5)
          have K5 := Lib.hid (K4.out.gr hg5)
          have hw45 := hg5.size
          clear hg5 G4 R4 F4 K4 HTi
          by_cases hei : ei = 0
          · subst hei
            rw [decide_eq_true rfl, Bool.true_and] at HRB
            go_wp2_with fail
            refine (HPi.out _).mono ?_
            rintro e6 w6 ⟨hcp, hg6⟩
            have G6 := Lib.hid (G5.out.trans hg6)
            have R6 := Lib.hid (R5.out.gr hg6)
            have F6 := Lib.hid (F5.out.gr hg6)
            have K6 := Lib.hid (K5.out.gr hg6)
            have hw56 := hg6.size
            clear hg6 G5 R5 F5 K5 HPi
            rcases hcp with ⟨hpb, ad2, cap2, rfl, hops, hfr⟩ | ⟨hpb, rfl⟩
            · rw [hpb, Bool.true_and] at HRB
              have H6 := Lib.hid hops
              have HA : Hid (∀ a : Addr, ad2 = some a → w.heap.size ≠ a.block) := fun a e => by have := hfr a e; omega
              have HA2 : Hid (∀ a : Addr, ad2 = some a → fb ≠ a.block) := fun a e => by have := hfr a e; omega
              clear hops hfr
              go_wp2_with fail
              refine (HTd.out _).mono ?_
              rintro e7 w7 ⟨rfl, hg7⟩
              have G7 := Lib.hid (G6.out.alloc.trans hg7)
              have R7 := Lib.hid (R6.out.alloc.gr hg7)
              have F7 := Lib.hid (F6.out.alloc.gr hg7)
              have K7 := Lib.hid ((K6.out.gr (Gr.refl _).alloc).gr hg7)
              have H7 := Lib.hid (H6.out.alloc.gr hg7)
              have I7 := Lib.hid ((Cs.new w6 [.int .i64 ir, .int .i64 inn, .slice ad2 iL.length cap2] 24 _ rfl).gr hg7)
              have hw67 := hg7.size
              clear hg7 G6 R6 F6 K6 H6 HTd
              by_cases hed : ed = 0
              · subst hed
                rw [decide_eq_true rfl, Bool.true_and] at HRB
                go_wp2_with fail
                refine (HNy.out _).mono ?_
                rintro e8 w8 ⟨hcy, hg8⟩
                have G8 := Lib.hid (G7.out.trans hg8)
                have R8 := Lib.hid (R7.out.gr hg8)
                have F8 := Lib.hid (F7.out.gr hg8)
                have K8 := Lib.hid (K7.out.gr hg8)
                have H8 := Lib.hid (H7.out.gr hg8)
                have I8 := Lib.hid (I7.out.gr hg8)
                clear hg8 G7 R7 F7 K7 H7 I7 HNy
                rcases hcy with ⟨hby, ady, capy, rfl, hcyy, hyy⟩ | ⟨hby, rfl⟩
                · rw [hby] at HRB
                  rw [HRB.out, Bool.true_and] at HBAD HOK
                  rw [HRN.out] at HRF
                  rw [HRF.out] at HEN
                  simp only [fmC] at HEN
                  obtain ⟨kb, ko, rfl, hkb, kc⟩ := ints1 K8.out
                  obtain ⟨yb, yo, rfl, hyb, yc⟩ := ints1 hyy
                  have i0 := I8.out.at_ 0 _ rfl
                  have i1 := I8.out.at_ 1 _ rfl
                  have i2 := I8.out.at_ 2 _ rfl
                  have ilt := I8.out.lt
                  have f8 := F8.out
                  have fz6 := f8.fz 6 (by simp)
                  have fz7 := f8.fz 7 (by simp)
                  have fz8 := f8.fz 8 (by simp)
                  have fz9 := f8.fz 9 (by simp)
                  have fz10 := f8.fz 10 (by simp)
                  have fz11 := f8.fz 11 (by simp)
                  have fx6 := f8.at_ 6 _ rfl
                  have fx7 := f8.at_ 7 _ rfl
                  have fx8 := f8.at_ 8 _ rfl
                  have fx9 := f8.at_ 9 _ rfl
                  have fx10 := f8.at_ 10 _ rfl
                  have fx11 := f8.at_ 11 _ rfl
                  have fxlt := f8.lt
                  clear f8 hyy hcyy K8 I8
                  go_wp2
                  go_region
                  have hfw : fb ≠ w.heap.size := by omega
                  have G9 : Hid (Gr w ((((((w8.setCell ⟨fb, 6, none⟩ (.int .i64 kv)).setCell ⟨fb, 7, none⟩ (.int .i64 ir)).setCell ⟨fb, 8, none⟩ (.int .i64 inn)).setCell ⟨fb, 9, none⟩ (.slice ad2 iL.length cap2)).setCell ⟨fb, 10, none⟩ (.string ⟨td.toArray⟩)).setCell ⟨fb, 11, none⟩ (.int .i64 yv)).drew) := ((((((G8.out.set ⟨fb, 6, none⟩ (Nat.le_of_lt hrl) (.int .i64 kv)).set ⟨fb, 7, none⟩ (Nat.le_of_lt hrl) (.int .i64 ir)).set ⟨fb, 8, none⟩ (Nat.le_of_lt hrl) (.int .i64 inn)).set ⟨fb, 9, none⟩ (Nat.le_of_lt hrl) (.slice ad2 iL.length cap2)).set ⟨fb, 10, none⟩ (Nat.le_of_lt hrl) (.string ⟨td.toArray⟩)).set ⟨fb, 11, none⟩ (Nat.le_of_lt hrl) (.int .i64 yv)).drew
                  have R9 := Lib.hid ((((((R8.out.far ⟨fb, 6, none⟩ (.int .i64 kv) hfw).far ⟨fb, 7, none⟩ (.int .i64 ir) hfw).far ⟨fb, 8, none⟩ (.int .i64 inn) hfw).far ⟨fb, 9, none⟩ (.slice ad2 iL.length cap2) hfw).far ⟨fb, 10, none⟩ (.string ⟨td.toArray⟩) hfw).far ⟨fb, 11, none⟩ (.int .i64 yv) hfw).drew
                  have F9 : Hid (Cs ((((((w8.setCell ⟨fb, 6, none⟩ (.int .i64 kv)).setCell ⟨fb, 7, none⟩ (.int .i64 ir)).setCell ⟨fb, 8, none⟩ (.int .i64 inn)).setCell ⟨fb, 9, none⟩ (.slice ad2 iL.length cap2)).setCell ⟨fb, 10, none⟩ (.string ⟨td.toArray⟩)).setCell ⟨fb, 11, none⟩ (.int .i64 yv)).drew fb [.int .i64 a0, .int .i64 a1, .int .i64 a2, .int .i64 a3, .int .i64 a4, .int .i64 a5, .int .i64 kv, .int .i64 ir, .int .i64 inn, .slice ad2 iL.length cap2, .string ⟨td.toArray⟩, .int .i64 yv]) := ((((((F8.out.set 6 (by simp) (.int .i64 kv)).set 7 (by simp) (.int .i64 ir)).set 8 (by simp) (.int .i64 inn)).set 9 (by simp) (.slice ad2 iL.length cap2)).set 10 (by simp) (.string ⟨td.toArray⟩)).set 11 (by simp) (.int .i64 yv)).drew
                  have I9 : Hid (HopsAt ((((((w8.setCell ⟨fb, 6, none⟩ (.int .i64 kv)).setCell ⟨fb, 7, none⟩ (.int .i64 ir)).setCell ⟨fb, 8, none⟩ (.int .i64 inn)).setCell ⟨fb, 9, none⟩ (.slice ad2 iL.length cap2)).setCell ⟨fb, 10, none⟩ (.string ⟨td.toArray⟩)).setCell ⟨fb, 11, none⟩ (.int .i64 yv)).drew ad2 iL) := ((((((H8.out.set ⟨fb, 6, none⟩ (.int .i64 kv) HA2.out).set ⟨fb, 7, none⟩ (.int .i64 ir) HA2.out).set ⟨fb, 8, none⟩ (.int .i64 inn) HA2.out).set ⟨fb, 9, none⟩ (.slice ad2 iL.length cap2) HA2.out).set ⟨fb, 10, none⟩ (.string ⟨td.toArray⟩) HA2.out).set ⟨fb, 11, none⟩ (.int .i64 yv) HA2.out).drew
                  clear G8 R8 F8 H8 kc yc i0 i1 i2 ilt fz6 fz7 fz8 fz9 fz10 fz11 fx6 fx7 fx8 fx9 fx10 fx11 fxlt hkb hyb
                  generalize ((((((w8.setCell ⟨fb, 6, none⟩ (.int .i64 kv)).setCell ⟨fb, 7, none⟩ (.int .i64 ir)).setCell ⟨fb, 8, none⟩ (.int .i64 inn)).setCell ⟨fb, 9, none⟩ (.slice ad2 iL.length cap2)).setCell ⟨fb, 10, none⟩ (.string ⟨td.toArray⟩)).setCell ⟨fb, 11, none⟩ (.int .i64 yv)).drew = w9 at *
                  have fc0 := F9.out.at_ 0 _ rfl
                  have fc1 := F9.out.at_ 1 _ rfl
                  have fc2 := F9.out.at_ 2 _ rfl
                  have fc3 := F9.out.at_ 3 _ rfl
                  have fc4 := F9.out.at_ 4 _ rfl
                  have fc5 := F9.out.at_ 5 _ rfl
                  have fc6 := F9.out.at_ 6 _ rfl
                  have fc7 := F9.out.at_ 7 _ rfl
                  have fc8 := F9.out.at_ 8 _ rfl
                  have fc9 := F9.out.at_ 9 _ rfl
                  have fc10 := F9.out.at_ 10 _ rfl
                  have fc11 := F9.out.at_ 11 _ rfl
                  have fclt := F9.out.lt
                  go_wp2_with fail
                  refine (HEN.out _ ad2 cap2 I9.out).mono ?_
                  rintro ez wz ⟨rfl, hgz⟩
                  have GZ : Hid (Gr w wz) := G9.out.trans hgz
                  have RZ := R9.out.gr hgz
                  have FZ := F9.out.gr hgz
                  have IZ : Hid (HopsAt wz ad2 iL) := (I9.out).gr hgz
                  clear hgz fc0 fc1 fc2 fc3 fc4 fc5 fc6 fc7 fc8 fc9 fc10 fc11 fclt
                  cases bF with
                  | false =>
                    rw [show (if false = true then (0 : Int) else 130) = 130 from rfl]
                    have HV := Lib.hid (HBAD.out (by simp))
                    have RL := RZ
                    have c0 := RL.at_ 0 _ rfl
                    have c1 := RL.at_ 1 _ rfl
                    have c2 := RL.at_ 2 _ rfl
                    have c3 := RL.at_ 3 _ rfl
                    have c4 := RL.at_ 4 _ rfl
                    have c5 := RL.at_ 5 _ rfl
                    have c6 := RL.at_ 6 _ rfl
                    have c7 := RL.at_ 7 _ rfl
                    have c8 := RL.at_ 8 _ rfl
                    have c9 := RL.at_ 9 _ rfl
                    have c10 := RL.at_ 10 _ rfl
                    have c11 := RL.at_ 11 _ rfl
                    have cf0 := RL.fz 0 (by simp)
                    have cf1 := RL.fz 1 (by simp)
                    have cf2 := RL.fz 2 (by simp)
                    have cf3 := RL.fz 3 (by simp)
                    have cf4 := RL.fz 4 (by simp)
                    have cf5 := RL.fz 5 (by simp)
                    have cf6 := RL.fz 6 (by simp)
                    have cf7 := RL.fz 7 (by simp)
                    have cf8 := RL.fz 8 (by simp)
                    have cf9 := RL.fz 9 (by simp)
                    have cf10 := RL.fz 10 (by simp)
                    have cf11 := RL.fz 11 (by simp)
                    have clt := RL.lt
                    have GL : Gr w _ := GZ.out
                    clear RL
                    go_wp2
                    exact bodyPost_ret (v := .tuple #[.agg #[.int .i64 0, .int .i64 0, .int .i64 0, .int .i64 0, .int .i64 0, .int .i64 0, .int .i64 0, .int .i64 0, .int .i64 0, .slice none 0 0, .string ⟨#[]⟩, .int .i64 0], .int .i64 130]) (by simp [results, Tryz.results21, go_sem, *]) rfl ⟨none, 0, by rw [HV.out.1, HV.out.2]; rfl, by rw [HV.out.1]; exact HopsAt.nil, GL.set12 _ (Nat.le_refl _) _ _ _ _ _ _ _ _ _ _ _ _⟩
                  | true =>
                    rw [show (if true = true then (0 : Int) else 130) = 0 from rfl]
                    by_cases hq : EL = s.data.toList
                    · have HV := Lib.hid (HOK.out (by simp [hq]))
                      have hqe : (⟨EL.toArray⟩ : ByteArray) = s := by rw [hq]
                      rw [hqe]
                      clear hqe hq
                      have c0 := RZ.at_ 0 _ rfl
                      have c1 := RZ.at_ 1 _ rfl
                      have c2 := RZ.at_ 2 _ rfl
                      have c3 := RZ.at_ 3 _ rfl
                      have c4 := RZ.at_ 4 _ rfl
                      have c5 := RZ.at_ 5 _ rfl
                      have c6 := RZ.at_ 6 _ rfl
                      have c7 := RZ.at_ 7 _ rfl
                      have c8 := RZ.at_ 8 _ rfl
                      have c9 := RZ.at_ 9 _ rfl
                      have c10 := RZ.at_ 10 _ rfl
                      have c11 := RZ.at_ 11 _ rfl
                      have cf0 := RZ.fz 0 (by simp)
                      have cf1 := RZ.fz 1 (by simp)
                      have cf2 := RZ.fz 2 (by simp)
                      have cf3 := RZ.fz 3 (by simp)
                      have cf4 := RZ.fz 4 (by simp)
                      have cf5 := RZ.fz 5 (by simp)
                      have cf6 := RZ.fz 6 (by simp)
                      have cf7 := RZ.fz 7 (by simp)
                      have cf8 := RZ.fz 8 (by simp)
                      have cf9 := RZ.fz 9 (by simp)
                      have cf10 := RZ.fz 10 (by simp)
                      have cf11 := RZ.fz 11 (by simp)
                      have clt := RZ.lt
                      have q0 := FZ.at_ 0 _ rfl
                      have q1 := FZ.at_ 1 _ rfl
                      have q2 := FZ.at_ 2 _ rfl
                      have q3 := FZ.at_ 3 _ rfl
                      have q4 := FZ.at_ 4 _ rfl
                      have q5 := FZ.at_ 5 _ rfl
                      have q6 := FZ.at_ 6 _ rfl
                      have q7 := FZ.at_ 7 _ rfl
                      have q8 := FZ.at_ 8 _ rfl
                      have q9 := FZ.at_ 9 _ rfl
                      have q10 := FZ.at_ 10 _ rfl
                      have q11 := FZ.at_ 11 _ rfl
                      have qf0 := FZ.fz 0 (by simp)
                      have qf1 := FZ.fz 1 (by simp)
                      have qf2 := FZ.fz 2 (by simp)
                      have qf3 := FZ.fz 3 (by simp)
                      have qf4 := FZ.fz 4 (by simp)
                      have qf5 := FZ.fz 5 (by simp)
                      have qf6 := FZ.fz 6 (by simp)
                      have qf7 := FZ.fz 7 (by simp)
                      have qf8 := FZ.fz 8 (by simp)
                      have qf9 := FZ.fz 9 (by simp)
                      have qf10 := FZ.fz 10 (by simp)
                      have qf11 := FZ.fz 11 (by simp)
                      have qlt := FZ.lt
                      have hA : ∀ a : Addr, ad2 = some a → w.heap.size ≠ a.block := HA.out
                      clear RZ FZ
                      go_wp2
                      exact bodyPost_ret (v := .tuple #[.agg #[.int .i64 a0, .int .i64 a1, .int .i64 a2, .int .i64 a3, .int .i64 a4, .int .i64 a5, .int .i64 kv, .int .i64 ir, .int .i64 inn, .slice ad2 iL.length cap2, .string ⟨td.toArray⟩, .int .i64 yv], .int .i64 0]) (by simp [results, Tryz.results21, go_sem, *]) rfl ⟨ad2, cap2, by rw [HV.out.1, HV.out.2, HRF.out]; rfl, by rw [HV.out.1, HRF.out]; exact IZ.out.set12 _ hA _ _ _ _ _ _ _ _ _ _ _ _, GZ.out.set12 _ (Nat.le_refl _) _ _ _ _ _ _ _ _ _ _ _ _⟩
                    · have HV := Lib.hid (HBAD.out (by simp [hq]))
                      have hqe : (EL == s.toList) = false := by rw [ByteArray.toList_eq]; simpa using hq
                      clear hq
                      have RL := RZ
                      have c0 := RL.at_ 0 _ rfl
                      have c1 := RL.at_ 1 _ rfl
                      have c2 := RL.at_ 2 _ rfl
                      have c3 := RL.at_ 3 _ rfl
                      have c4 := RL.at_ 4 _ rfl
                      have c5 := RL.at_ 5 _ rfl
                      have c6 := RL.at_ 6 _ rfl
                      have c7 := RL.at_ 7 _ rfl
                      have c8 := RL.at_ 8 _ rfl
                      have c9 := RL.at_ 9 _ rfl
                      have c10 := RL.at_ 10 _ rfl
                      have c11 := RL.at_ 11 _ rfl
                      have cf0 := RL.fz 0 (by simp)
                      have cf1 := RL.fz 1 (by simp)
                      have cf2 := RL.fz 2 (by simp)
                      have cf3 := RL.fz 3 (by simp)
                      have cf4 := RL.fz 4 (by simp)
                      have cf5 := RL.fz 5 (by simp)
                      have cf6 := RL.fz 6 (by simp)
                      have cf7 := RL.fz 7 (by simp)
                      have cf8 := RL.fz 8 (by simp)
                      have cf9 := RL.fz 9 (by simp)
                      have cf10 := RL.fz 10 (by simp)
                      have cf11 := RL.fz 11 (by simp)
                      have clt := RL.lt
                      have GL : Gr w _ := GZ.out
                      clear RL
                      go_wp2
                      exact bodyPost_ret (v := .tuple #[.agg #[.int .i64 0, .int .i64 0, .int .i64 0, .int .i64 0, .int .i64 0, .int .i64 0, .int .i64 0, .int .i64 0, .int .i64 0, .slice none 0 0, .string ⟨#[]⟩, .int .i64 0], .int .i64 130]) (by simp [results, Tryz.results21, go_sem, *]) rfl ⟨none, 0, by rw [HV.out.1, HV.out.2]; rfl, by rw [HV.out.1]; exact HopsAt.nil, GL.set12 _ (Nat.le_refl _) _ _ _ _ _ _ _ _ _ _ _ _⟩
                · rw [hby] at HRB
                  rw [HRB.out, Bool.false_and] at HBAD
                  have HV := Lib.hid (HBAD.out rfl)
                  have RL := R8.out
                  have c0 := RL.at_ 0 _ rfl
                  have c1 := RL.at_ 1 _ rfl
                  have c2 := RL.at_ 2 _ rfl
                  have c3 := RL.at_ 3 _ rfl
                  have c4 := RL.at_ 4 _ rfl
                  have c5 := RL.at_ 5 _ rfl
                  have c6 := RL.at_ 6 _ rfl
                  have c7 := RL.at_ 7 _ rfl
                  have c8 := RL.at_ 8 _ rfl
                  have c9 := RL.at_ 9 _ rfl
                  have c10 := RL.at_ 10 _ rfl
                  have c11 := RL.at_ 11 _ rfl
                  have cf0 := RL.fz 0 (by simp)
                  have cf1 := RL.fz 1 (by simp)
                  have cf2 := RL.fz 2 (by simp)
                  have cf3 := RL.fz 3 (by simp)
                  have cf4 := RL.fz 4 (by simp)
                  have cf5 := RL.fz 5 (by simp)
                  have cf6 := RL.fz 6 (by simp)
                  have cf7 := RL.fz 7 (by simp)
                  have cf8 := RL.fz 8 (by simp)
                  have cf9 := RL.fz 9 (by simp)
                  have cf10 := RL.fz 10 (by simp)
                  have cf11 := RL.fz 11 (by simp)
                  have clt := RL.lt
                  have GL : Gr w _ := G8.out
                  clear RL
                  go_wp2
                  exact bodyPost_ret (v := .tuple #[.agg #[.int .i64 0, .int .i64 0, .int .i64 0, .int .i64 0, .int .i64 0, .int .i64 0, .int .i64 0, .int .i64 0, .int .i64 0, .slice none 0 0, .string ⟨#[]⟩, .int .i64 0], .int .i64 130]) (by simp [results, Tryz.results21, go_sem, *]) rfl ⟨none, 0, by rw [HV.out.1, HV.out.2]; rfl, by rw [HV.out.1]; exact HopsAt.nil, GL.set12 _ (Nat.le_refl _) _ _ _ _ _ _ _ _ _ _ _ _⟩
              · rw [decide_eq_false hed, Bool.false_and] at HRB
                rw [HRB.out, Bool.false_and] at HBAD
                have HV := Lib.hid (HBAD.out rfl)
                have hed' : ((ed : Int) != 0) = true := by rw [bne_iff_ne]; omega
                clear hed
                have RL := R7.out
                have c0 := RL.at_ 0 _ rfl
                have c1 := RL.at_ 1 _ rfl
                have c2 := RL.at_ 2 _ rfl
                have c3 := RL.at_ 3 _ rfl
                have c4 := RL.at_ 4 _ rfl
                have c5 := RL.at_ 5 _ rfl
                have c6 := RL.at_ 6 _ rfl
                have c7 := RL.at_ 7 _ rfl
                have c8 := RL.at_ 8 _ rfl
                have c9 := RL.at_ 9 _ rfl
                have c10 := RL.at_ 10 _ rfl
                have c11 := RL.at_ 11 _ rfl
                have cf0 := RL.fz 0 (by simp)
                have cf1 := RL.fz 1 (by simp)
                have cf2 := RL.fz 2 (by simp)
                have cf3 := RL.fz 3 (by simp)
                have cf4 := RL.fz 4 (by simp)
                have cf5 := RL.fz 5 (by simp)
                have cf6 := RL.fz 6 (by simp)
                have cf7 := RL.fz 7 (by simp)
                have cf8 := RL.fz 8 (by simp)
                have cf9 := RL.fz 9 (by simp)
                have cf10 := RL.fz 10 (by simp)
                have cf11 := RL.fz 11 (by simp)
                have clt := RL.lt
                have GL : Gr w _ := G7.out
                clear RL
                go_wp2
                exact bodyPost_ret (v := .tuple #[.agg #[.int .i64 0, .int .i64 0, .int .i64 0, .int .i64 0, .int .i64 0, .int .i64 0, .int .i64 0, .int .i64 0, .int .i64 0, .slice none 0 0, .string ⟨#[]⟩, .int .i64 0], .int .i64 130]) (by simp [results, Tryz.results21, go_sem, *]) rfl ⟨none, 0, by rw [HV.out.1, HV.out.2]; rfl, by rw [HV.out.1]; exact HopsAt.nil, GL.set12 _ (Nat.le_refl _) _ _ _ _ _ _ _ _ _ _ _ _⟩
            · rw [hpb] at HRB
              simp only [Bool.false_and] at HRB
              rw [HRB.out, Bool.false_and] at HBAD
              have HV := Lib.hid (HBAD.out rfl)
              go_wp2_with fail
              refine (HTd.out _).mono ?_
              rintro e7 w7 ⟨rfl, hg7⟩
              have G7 := Lib.hid (G6.out.alloc.trans hg7)
              have R7 := Lib.hid (R6.out.alloc.gr hg7)
              clear hg7
              have RL := R7.out
              have c0 := RL.at_ 0 _ rfl
              have c1 := RL.at_ 1 _ rfl
              have c2 := RL.at_ 2 _ rfl
              have c3 := RL.at_ 3 _ rfl
              have c4 := RL.at_ 4 _ rfl
              have c5 := RL.at_ 5 _ rfl
              have c6 := RL.at_ 6 _ rfl
              have c7 := RL.at_ 7 _ rfl
              have c8 := RL.at_ 8 _ rfl
              have c9 := RL.at_ 9 _ rfl
              have c10 := RL.at_ 10 _ rfl
              have c11 := RL.at_ 11 _ rfl
              have cf0 := RL.fz 0 (by simp)
              have cf1 := RL.fz 1 (by simp)
              have cf2 := RL.fz 2 (by simp)
              have cf3 := RL.fz 3 (by simp)
              have cf4 := RL.fz 4 (by simp)
              have cf5 := RL.fz 5 (by simp)
              have cf6 := RL.fz 6 (by simp)
              have cf7 := RL.fz 7 (by simp)
              have cf8 := RL.fz 8 (by simp)
              have cf9 := RL.fz 9 (by simp)
              have cf10 := RL.fz 10 (by simp)
              have cf11 := RL.fz 11 (by simp)
              have clt := RL.lt
              have GL : Gr w _ := G7.out
              clear RL
              go_wp2
              exact bodyPost_ret (v := .tuple #[.agg #[.int .i64 0, .int .i64 0, .int .i64 0, .int .i64 0, .int .i64 0, .int .i64 0, .int .i64 0, .int .i64 0, .int .i64 0, .slice none 0 0, .string ⟨#[]⟩, .int .i64 0], .int .i64 130]) (by simp [results, Tryz.results21, go_sem, *]) rfl ⟨none, 0, by rw [HV.out.1, HV.out.2]; rfl, by rw [HV.out.1]; exact HopsAt.nil, GL.set12 _ (Nat.le_refl _) _ _ _ _ _ _ _ _ _ _ _ _⟩
          · rw [decide_eq_false hei] at HRB
            simp only [Bool.false_and] at HRB
            rw [HRB.out, Bool.false_and] at HBAD
            have HV := Lib.hid (HBAD.out rfl)
            have hei' : ((ei : Int) != 0) = true := by rw [bne_iff_ne]; omega
            clear hei
            have RL := R5.out
            have c0 := RL.at_ 0 _ rfl
            have c1 := RL.at_ 1 _ rfl
            have c2 := RL.at_ 2 _ rfl
            have c3 := RL.at_ 3 _ rfl
            have c4 := RL.at_ 4 _ rfl
            have c5 := RL.at_ 5 _ rfl
            have c6 := RL.at_ 6 _ rfl
            have c7 := RL.at_ 7 _ rfl
            have c8 := RL.at_ 8 _ rfl
            have c9 := RL.at_ 9 _ rfl
            have c10 := RL.at_ 10 _ rfl
            have c11 := RL.at_ 11 _ rfl
            have cf0 := RL.fz 0 (by simp)
            have cf1 := RL.fz 1 (by simp)
            have cf2 := RL.fz 2 (by simp)
            have cf3 := RL.fz 3 (by simp)
            have cf4 := RL.fz 4 (by simp)
            have cf5 := RL.fz 5 (by simp)
            have cf6 := RL.fz 6 (by simp)
            have cf7 := RL.fz 7 (by simp)
            have cf8 := RL.fz 8 (by simp)
            have cf9 := RL.fz 9 (by simp)
            have cf10 := RL.fz 10 (by simp)
            have cf11 := RL.fz 11 (by simp)
            have clt := RL.lt
            have GL : Gr w _ := G5.out
            clear RL
            go_wp2
            exact bodyPost_ret (v := .tuple #[.agg #[.int .i64 0, .int .i64 0, .int .i64 0, .int .i64 0, .int .i64 0, .int .i64 0, .int .i64 0, .int .i64 0, .int .i64 0, .slice none 0 0, .string ⟨#[]⟩, .int .i64 0], .int .i64 130]) (by simp [results, Tryz.results21, go_sem, *]) rfl ⟨none, 0, by rw [HV.out.1, HV.out.2]; rfl, by rw [HV.out.1]; exact HopsAt.nil, GL.set12 _ (Nat.le_refl _) _ _ _ _ _ _ _ _ _ _ _ _⟩
        · rw [hbk] at HRB
          simp only [Bool.false_and] at HRB
          rw [HRB.out, Bool.false_and] at HBAD
          have HV := Lib.hid (HBAD.out rfl)
          have HTi : Hid (∀ w', Calls Tryz.prog 51 #[.string ⟨B.toArray⟩, .int .i64 0] w' fun e w2 => e = .returned (.tuple #[.string ⟨(Pk.takeText B (0 : Nat)).1.toArray⟩, .int .i64 (Pk.takeText B (0 : Nat)).2.1, .int .i64 (Pk.takeText B (0 : Nat)).2.2]) ∧ Gr w' w2) := fun w' => HT.out 0 w'
          generalize (Pk.takeText B (0 : Nat)).1 = ti at *
          generalize (Pk.takeText B (0 : Nat)).2.1 = pi at *
          generalize (Pk.takeText B (0 : Nat)).2.2 = ei at *
          go_wp2_with fail
          refine (HTi.out _).mono ?_
          rintro e5 w5 ⟨rfl, hg5⟩
          have G5 := Lib.hid (G4.out.trans hg5)
          have R5 := Lib.hid (R4.out.gr hg5)
          clear hg5
          have RL := R5.out
          have c0 := RL.at_ 0 _ rfl
          have c1 := RL.at_ 1 _ rfl
          have c2 := RL.at_ 2 _ rfl
          have c3 := RL.at_ 3 _ rfl
          have c4 := RL.at_ 4 _ rfl
          have c5 := RL.at_ 5 _ rfl
          have c6 := RL.at_ 6 _ rfl
          have c7 := RL.at_ 7 _ rfl
          have c8 := RL.at_ 8 _ rfl
          have c9 := RL.at_ 9 _ rfl
          have c10 := RL.at_ 10 _ rfl
          have c11 := RL.at_ 11 _ rfl
          have cf0 := RL.fz 0 (by simp)
          have cf1 := RL.fz 1 (by simp)
          have cf2 := RL.fz 2 (by simp)
          have cf3 := RL.fz 3 (by simp)
          have cf4 := RL.fz 4 (by simp)
          have cf5 := RL.fz 5 (by simp)
          have cf6 := RL.fz 6 (by simp)
          have cf7 := RL.fz 7 (by simp)
          have cf8 := RL.fz 8 (by simp)
          have cf9 := RL.fz 9 (by simp)
          have cf10 := RL.fz 10 (by simp)
          have cf11 := RL.fz 11 (by simp)
          have clt := RL.lt
          have GL : Gr w _ := G5.out
          clear RL
          go_wp2
          exact bodyPost_ret (v := .tuple #[.agg #[.int .i64 0, .int .i64 0, .int .i64 0, .int .i64 0, .int .i64 0, .int .i64 0, .int .i64 0, .int .i64 0, .int .i64 0, .slice none 0 0, .string ⟨#[]⟩, .int .i64 0], .int .i64 130]) (by simp [results, Tryz.results21, go_sem, *]) rfl ⟨none, 0, by rw [HV.out.1, HV.out.2]; rfl, by rw [HV.out.1]; exact HopsAt.nil, GL.set12 _ (Nat.le_refl _) _ _ _ _ _ _ _ _ _ _ _ _⟩
    · rw [hb6, Bool.false_and] at HRB
      rw [HRB.out, Bool.false_and] at HBAD
      have HV := Lib.hid (HBAD.out rfl)
      have RL := R2.out
      have c0 := RL.at_ 0 _ rfl
      have c1 := RL.at_ 1 _ rfl
      have c2 := RL.at_ 2 _ rfl
      have c3 := RL.at_ 3 _ rfl
      have c4 := RL.at_ 4 _ rfl
      have c5 := RL.at_ 5 _ rfl
      have c6 := RL.at_ 6 _ rfl
      have c7 := RL.at_ 7 _ rfl
      have c8 := RL.at_ 8 _ rfl
      have c9 := RL.at_ 9 _ rfl
      have c10 := RL.at_ 10 _ rfl
      have c11 := RL.at_ 11 _ rfl
      have cf0 := RL.fz 0 (by simp)
      have cf1 := RL.fz 1 (by simp)
      have cf2 := RL.fz 2 (by simp)
      have cf3 := RL.fz 3 (by simp)
      have cf4 := RL.fz 4 (by simp)
      have cf5 := RL.fz 5 (by simp)
      have cf6 := RL.fz 6 (by simp)
      have cf7 := RL.fz 7 (by simp)
      have cf8 := RL.fz 8 (by simp)
      have cf9 := RL.fz 9 (by simp)
      have cf10 := RL.fz 10 (by simp)
      have cf11 := RL.fz 11 (by simp)
      have clt := RL.lt
      have GL : Gr w _ := G2.out
      clear RL
      go_wp2
      exact bodyPost_ret (v := .tuple #[.agg #[.int .i64 0, .int .i64 0, .int .i64 0, .int .i64 0, .int .i64 0, .int .i64 0, .int .i64 0, .int .i64 0, .int .i64 0, .slice none 0 0, .string ⟨#[]⟩, .int .i64 0], .int .i64 130]) (by simp [results, Tryz.results21, go_sem, *]) rfl ⟨none, 0, by rw [HV.out.1, HV.out.2]; rfl, by rw [HV.out.1]; exact HopsAt.nil, GL.set12 _ (Nat.le_refl _) _ _ _ _ _ _ _ _ _ _ _ _⟩
  · rw [if_neg h0] at HE
    rw [if_neg (fun h => h0 h.1)] at HF
    have h0' : ((eo : Int) != 0) = true := by simpa using (show ¬ (eo : Int) = 0 by omega)
    clear hlen hs h0 hrd HG
    go_enter Tryz.func21, Tryz.ntmps21
    go_wp2_with fail
    refine (HO.out _).mono ?_
    rintro e1 w1 ⟨rfl, hg1⟩
    have R1 := (Cs.new w [.int .i64 0, .int .i64 0, .int .i64 0, .int .i64 0, .int .i64 0, .int .i64 0, .int .i64 0, .int .i64 0, .int .i64 0, .slice none 0 0, .string ⟨#[]⟩, .int .i64 0] 39 _ rfl).gr hg1
    have hgw1 : Gr w w1 := (by repeat (first | exact Gr.refl _ | refine Gr.alloc ?_ | refine Gr.drew ?_ | refine Gr.trans ?_ (by assumption)))
    have c0 := R1.at_ 0 _ rfl
    have c1 := R1.at_ 1 _ rfl
    have c2 := R1.at_ 2 _ rfl
    have c3 := R1.at_ 3 _ rfl
    have c4 := R1.at_ 4 _ rfl
    have c5 := R1.at_ 5 _ rfl
    have c6 := R1.at_ 6 _ rfl
    have c7 := R1.at_ 7 _ rfl
    have c8 := R1.at_ 8 _ rfl
    have c9 := R1.at_ 9 _ rfl
    have c10 := R1.at_ 10 _ rfl
    have c11 := R1.at_ 11 _ rfl
    have cf0 := R1.fz 0 (by simp)
    have cf1 := R1.fz 1 (by simp)
    have cf2 := R1.fz 2 (by simp)
    have cf3 := R1.fz 3 (by simp)
    have cf4 := R1.fz 4 (by simp)
    have cf5 := R1.fz 5 (by simp)
    have cf6 := R1.fz 6 (by simp)
    have cf7 := R1.fz 7 (by simp)
    have cf8 := R1.fz 8 (by simp)
    have cf9 := R1.fz 9 (by simp)
    have cf10 := R1.fz 10 (by simp)
    have cf11 := R1.fz 11 (by simp)
    have clt := R1.lt
    clear R1 hg1
    go_wp2
    exact bodyPost_ret (v := .tuple #[.agg #[.int .i64 0, .int .i64 0, .int .i64 0, .int .i64 0, .int .i64 0, .int .i64 0, .int .i64 0, .int .i64 0, .int .i64 0, .slice none 0 0, .string ⟨#[]⟩, .int .i64 0], .int .i64 (eo : Int)]) (by simp [results, Tryz.results21, go_sem, *]) rfl ⟨none, 0, by rw [HF.out, HE.out]; rfl, by rw [HF.out]; exact HopsAt.nil, hgw1.set12 _ (Nat.le_refl _) _ _ _ _ _ _ _ _ _ _ _ _⟩
end Go.Proofs.YtcmbppjfpdkblaaGreatDoor
