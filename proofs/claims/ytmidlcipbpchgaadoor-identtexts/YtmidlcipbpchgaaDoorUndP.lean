/- begins, Under. -/
import Derived.Test.YtmidlcipbpchgaaDoorCmpP
import Derived.BigRegion
namespace Go.Proofs.YtmidlcipbpchgaaDoor
open Go.RowKit

def begB : List (Int × Int) → List (Int × Int) → Bool
  | _, [] => true
  | [], _ :: _ => false
  | h :: t, f :: g => decide (f = h) && begB t g

set_option maxHeartbeats 1000000 in
set_option maxRecDepth 100000 in
theorem begins_any (L F : List (Int × Int)) (ad ad2 : Option Addr) (cap cap2 : Nat) (w : World) (hL : HopsAt w ad L) (hF : HopsAt w ad2 F) (hn : L.length ≤ 9223372036854775807) (hm : F.length ≤ 9223372036854775807) :
    Calls Tryd.prog 40 #[.slice ad L.length cap, .slice ad2 F.length cap2] w fun e w' => e = .returned (.bool (begB L F)) ∧ Gr w w' := by
  by_cases hlen : F.length ≤ L.length
  · have HL : Hid (HopsAt w ad L) := hL
    have HM : Hid (HopsAt w ad2 F) := hF
    have hlen' : ¬ ((L.length : Int) < F.length) := by omega
    clear hL hF
    go_enter Tryd.func40, Tryd.ntmps40
    go_wp2
    go_loopw [14] (fun i wr => ∃ k : Nat, k ≤ F.length ∧ i = .int .i64 k ∧ begB L F = begB (L.drop k) (F.drop k) ∧ Gr w wr) (fun i _ => F.length - (intOf i).toNat)
    case atStart => exact ⟨0, by omega, rfl, rfl, Gr.refl _⟩
    case round =>
      obtain ⟨k, hk, rfl, hp, hg⟩ := hrel
      have HP : Hid (begB L F = begB (L.drop k) (F.drop k)) := hp
      clear hp
      by_cases hlt : k < F.length
      · have hlt2 : k < L.length := by omega
        obtain ⟨b, off, rfl, hbl, hc, hd⟩ := HM.out k hlt
        obtain ⟨b2, off2, rfl, hbl2, hc2, hd2⟩ := HL.out k hlt2
        have hc' := hg.keep hc
        have hd' := hg.keep hd
        have hc2' := hg.keep hc2
        have hd2' := hg.keep hd2
        have HP2 : Hid (begB L F = (decide (F[k] = L[k]) && begB (L.drop (k + 1)) (F.drop (k + 1)))) := by
          show _ = _
          rw [HP.out, List.drop_eq_getElem_cons hlt, List.drop_eq_getElem_cons hlt2, begB]
        obtain ⟨⟨x1, x2⟩, hx⟩ : ∃ h, F[k] = h := ⟨_, rfl⟩
        obtain ⟨⟨y1, y2⟩, hy⟩ : ∃ h, L[k] = h := ⟨_, rfl⟩
        rw [hx] at hc' hd' HP2
        rw [hy] at hc2' hd2' HP2
        have hki : (k : Int) < L.length := by omega
        have hbw : b2 < wr.heap.size := Nat.lt_of_lt_of_le hbl2 hg.size
        clear hc2 hd2 hx hy HP HL HM hc hd
        by_cases e1 : x1 = y1
        · subst e1
          by_cases e2 : x2 = y2
          · subst e2
            have HF : Hid (begB L F = begB (L.drop (k + 1)) (F.drop (k + 1))) := by show _ = _; rw [HP2.out]; simp
            clear HP2
            go_wp2
            go_region
            go_wp2
            go_roundw
            case rel => exact ⟨k + 1, by omega, by go_num, HF.out, (by repeat (first | exact Gr.refl _ | refine Gr.alloc ?_ | refine Gr.drew ?_ | refine Gr.trans ?_ (by assumption)))⟩
            case measure => simp [intOf]; omega
          · have HF : Hid (begB L F = false) := by show _ = _; rw [HP2.out]; simp [e2]
            clear HP2
            go_wp2
            go_region
            go_wp2
            go_ret
            exact ⟨by rw [HF.out]; rfl, (by repeat (first | exact Gr.refl _ | refine Gr.alloc ?_ | refine Gr.drew ?_ | refine Gr.trans ?_ (by assumption)))⟩
        · have HF : Hid (begB L F = false) := by show _ = _; rw [HP2.out]; simp [e1]
          clear HP2
          go_wp2
          go_region
          go_wp2
          go_ret
          exact ⟨by rw [HF.out]; rfl, (by repeat (first | exact Gr.refl _ | refine Gr.alloc ?_ | refine Gr.drew ?_ | refine Gr.trans ?_ (by assumption)))⟩
      · have HF : Hid (begB L F = true) := by
          show _ = _
          rw [HP.out, dropN F k (by omega)]; cases L.drop k <;> rfl
        go_wp2
        go_ret
        exact ⟨by rw [HF.out]; rfl, hg⟩
  · have hlen' : (L.length : Int) < F.length := by omega
    have HF : Hid (begB L F = false) := by
      show _ = _
      clear hL hF hn hm hlen'
      induction F generalizing L with
      | nil => simp at hlen
      | cons f g ih =>
        cases L with
        | nil => rfl
        | cons h t => rw [begB, ih t (by simpa using hlen), Bool.and_false]
    clear hL hF
    go_enter Tryd.func40, Tryd.ntmps40
    go_wp2
    go_ret
    exact ⟨by rw [HF.out]; rfl, Gr.refl _⟩

/- ids in a row -/
structure Top where
  r : Int
  n : Int
  L : List (Int × Int)
  ad : Option Addr
  cap : Nat
def TopsAt (w : World) (ad : Option Addr) (T : List Top) : Prop :=
  ∀ j (h : j < T.length), ∃ b off, ad = some ⟨b, off, none⟩ ∧ b < w.heap.size ∧ w.cell? ⟨b, off + j * 3, none⟩ = some (.int .i64 T[j].r) ∧ w.cell? ⟨b, off + j * 3 + 1, none⟩ = some (.int .i64 T[j].n) ∧ w.cell? ⟨b, off + j * 3 + 2, none⟩ = some (.slice T[j].ad T[j].L.length T[j].cap) ∧ HopsAt w T[j].ad T[j].L ∧ T[j].L.length ≤ 9223372036854775807
theorem TopsAt.gr {w w' : World} {ad : Option Addr} {T : List Top} (h : TopsAt w ad T) (g : Gr w w') : TopsAt w' ad T := by
  intro j hj
  obtain ⟨b, off, e, hb, h1, h2, h3, h4, h5⟩ := h j hj
  exact ⟨b, off, e, Nat.lt_of_lt_of_le hb g.size, g.keep h1, g.keep h2, g.keep h3, h4.gr g, h5⟩
def topB (r n : Int) (L : List (Int × Int)) (t : Top) : Bool := t.r == r && t.n == n && begB L t.L
def underB (r n : Int) (L : List (Int × Int)) (T : List Top) : Bool := T.any (topB r n L)

set_option maxHeartbeats 1000000 in
set_option maxRecDepth 100000 in
theorem under_any (r n : Int) (L : List (Int × Int)) (ad : Option Addr) (cap : Nat) (T : List Top) (ad2 : Option Addr) (cap2 : Nat) (w : World) (hL : HopsAt w ad L) (hT : TopsAt w ad2 T) (hn : L.length ≤ 9223372036854775807) (hm : T.length ≤ 9223372036854775807) :
    Calls Tryd.prog 25 #[.agg #[.int .i64 r, .int .i64 n, .slice ad L.length cap], .slice ad2 T.length cap2] w fun e w' => e = .returned (.bool (underB r n L T)) ∧ Gr w w' := by
  have HT : Hid (TopsAt w ad2 T) := hT
  have HB : Hid (∀ (F : List (Int × Int)) (ad2 : Option Addr) (cap2 : Nat) (w' : World), Gr w w' → HopsAt w ad2 F → F.length ≤ 9223372036854775807 → Calls Tryd.prog 40 #[.slice ad L.length cap, .slice ad2 F.length cap2] w' fun e w2 => e = .returned (.bool (begB L F)) ∧ Gr w' w2) := fun F ad2 cap2 w' g hF hf => begins_any L F ad ad2 cap cap2 w' (hL.gr g) (hF.gr g) hn hf
  clear hL hT
  go_enter Tryd.func25, Tryd.ntmps25
  go_wp2
  go_loopw [9] (fun i wr => ∃ k : Nat, k ≤ T.length ∧ i = .int .i64 k ∧ underB r n L T = underB r n L (T.drop k) ∧ Gr w wr ∧ w.heap.size < wr.heap.size ∧ wr.cell? ⟨w.heap.size, 0, none⟩ = some (.int .i64 r) ∧ wr.cell? ⟨w.heap.size, 1, none⟩ = some (.int .i64 n) ∧ wr.cell? ⟨w.heap.size, 2, none⟩ = some (.slice ad L.length cap)) (fun i _ => T.length - (intOf i).toNat)
  case atStart => exact ⟨0, by omega, rfl, rfl, (by repeat (first | exact Gr.refl _ | refine Gr.alloc ?_ | refine Gr.drew ?_ | refine Gr.trans ?_ (by assumption))), by simp, by simp, by simp, by simp⟩
  case round =>
    obtain ⟨k, hk, rfl, hp, hg, hsz, q0, q1, q2⟩ := hrel
    have HP : Hid (underB r n L T = underB r n L (T.drop k)) := hp
    clear hp
    by_cases hlt : k < T.length
    · obtain ⟨b, off, rfl, hbl, c0, c1, c2, hF, hf⟩ := HT.out k hlt
      have d0 := hg.keep c0
      have d1 := hg.keep c1
      have d2 := hg.keep c2
      have HP2 : Hid (underB r n L T = (topB r n L T[k] || underB r n L (T.drop (k + 1)))) := by
        show _ = _
        rw [HP.out, List.drop_eq_getElem_cons hlt]; rfl
      obtain ⟨⟨tr, tn, tL, tad, tcap⟩, ht⟩ : ∃ t, T[k] = t := ⟨_, rfl⟩
      rw [ht] at d0 d1 d2 hF hf HP2
      simp only at d0 d1 d2 hF hf
      have HB2 : Hid (∀ w', Gr w w' → Calls Tryd.prog 40 #[.slice ad L.length cap, .slice tad tL.length tcap] w' fun e w2 => e = .returned (.bool (begB L tL)) ∧ Gr w' w2) := fun w' g => HB.out tL tad tcap w' g hF hf
      clear c0 c1 c2 ht HB HT hF HP
      by_cases e0 : tr = r
      · subst e0
        have he0 : (tr == tr) = true := by simp
        by_cases e1 : tn = n
        · subst e1
          have he1 : (tn == tn) = true := by simp
          have HP3 : Hid (underB tr tn L T = (begB L tL || underB tr tn L (T.drop (k + 1)))) := by show _ = _; rw [HP2.out]; simp [topB]
          clear HP2
          generalize begB L tL = bb at *
          cases bb with
          | true =>
            have HF : Hid (underB tr tn L T = true) := by show _ = _; rw [HP3.out]; rfl
            go_wp2_with fail
            refine (HB2.out _ (by repeat (first | exact Gr.refl _ | refine Gr.alloc ?_ | refine Gr.drew ?_ | refine Gr.trans ?_ (by assumption)))).mono ?_
            rintro e1 w1 ⟨rfl, hg1⟩
            go_wp2
            go_ret
            exact ⟨by rw [HF.out]; rfl, (by repeat (first | exact Gr.refl _ | refine Gr.alloc ?_ | refine Gr.drew ?_ | refine Gr.trans ?_ (by assumption)))⟩
          | false =>
            have HF : Hid (underB tr tn L T = underB tr tn L (T.drop (k + 1))) := by show _ = _; rw [HP3.out]; rfl
            go_wp2_with fail
            refine (HB2.out _ (by repeat (first | exact Gr.refl _ | refine Gr.alloc ?_ | refine Gr.drew ?_ | refine Gr.trans ?_ (by assumption)))).mono ?_
            rintro e1 w1 ⟨rfl, hg1⟩
            go_wp2
            go_roundw
            case rel =>
              have hga : Gr wr w1 := (by repeat (first | exact Gr.refl _ | refine Gr.alloc ?_ | refine Gr.drew ?_ | refine Gr.trans ?_ (by assumption)))
              exact ⟨k + 1, by omega, by go_num, HF.out, hg.trans hga, Nat.lt_of_lt_of_le hsz hga.size, hga.keep q0, hga.keep q1, hga.keep q2⟩
            case measure => simp [intOf]; omega
        · have he1 : (tn == n) = false := by simpa using e1
          have HF : Hid (underB tr n L T = underB tr n L (T.drop (k + 1))) := by show _ = _; rw [HP2.out]; simp [topB, he1]
          clear HP2 e1
          go_wp2
          go_roundw
          case rel =>
            exact ⟨k + 1, by omega, by go_num, HF.out, hg.alloc, by simp; omega, (Gr.refl _).alloc.keep q0, (Gr.refl _).alloc.keep q1, (Gr.refl _).alloc.keep q2⟩
          case measure => simp [intOf]; omega
      · have he0 : (tr == r) = false := by simpa using e0
        have HF : Hid (underB r n L T = underB r n L (T.drop (k + 1))) := by show _ = _; rw [HP2.out]; simp [topB, he0]
        clear HP2 e0
        go_wp2
        go_roundw
        case rel =>
          exact ⟨k + 1, by omega, by go_num, HF.out, hg.alloc, by simp; omega, (Gr.refl _).alloc.keep q0, (Gr.refl _).alloc.keep q1, (Gr.refl _).alloc.keep q2⟩
        case measure => simp [intOf]; omega
    · have HF : Hid (underB r n L T = false) := by show _ = _; rw [HP.out, dropN T k (by omega)]; rfl
      go_wp2
      go_ret
      exact ⟨by rw [HF.out]; rfl, hg⟩
end Go.Proofs.YtmidlcipbpchgaaDoor
