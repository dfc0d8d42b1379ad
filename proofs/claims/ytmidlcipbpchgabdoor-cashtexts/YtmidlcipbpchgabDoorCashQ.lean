/- The document's Parse of amounts. -/
import Derived.Test.YtmidlcipbpchgabDoorCashD
namespace Go.Proofs.YtmidlcipbpchgabDoor
open Go.RowKit

def restR (l : List UInt8) (k : Nat) : List UInt8 := if k = 0 then Csh.bodyR l else l.drop k
theorem rest_skip (l : List UInt8) (h : 0 < l.length) (h45 : l[0] = 45) : restR l 0 = restR l 1 := by
  have e1 : restR l 0 = l.tail := by
    unfold restR Csh.bodyR
    rw [if_pos rfl, List.head?_eq_getElem?, List.getElem?_eq_getElem h, h45, if_pos rfl]
  have e2 : restR l 1 = l.drop 1 := by unfold restR; rw [if_neg (by omega)]
  rw [e1, e2, List.drop_one]
theorem rest_cons (l : List UInt8) (k : Nat) (h : k < l.length) (hk : k ≠ 0 ∨ l[k] ≠ 45) : restR l k = l[k] :: restR l (k + 1) := by
  unfold restR
  rw [if_neg (by omega : k + 1 ≠ 0)]
  by_cases h0 : k = 0
  · subst h0
    have hne : l[0] ≠ 45 := hk.resolve_left (fun e => e rfl)
    unfold Csh.bodyR
    rw [if_pos rfl, List.head?_eq_getElem?, List.getElem?_eq_getElem h, if_neg (fun e => hne (Option.some.inj e))]
    exact List.drop_eq_getElem_cons h (i := 0)
  · rw [if_neg h0]; exact List.drop_eq_getElem_cons h
theorem rest_end (l : List UInt8) (h : 0 < l.length) : restR l l.length = [] := by
  unfold restR; rw [if_neg (by omega), List.drop_length]
def optV : Option Int → Int
  | none => 0
  | some c => c
def optE : Option Int → Int
  | none => 40
  | some _ => 0
theorem byte_ne {b : UInt8} {c : Nat} (hc : c < 256) : (((b.toNat : Int)) == (c : Int)) = decide (b = UInt8.ofNat c) := by
  by_cases h : b = UInt8.ofNat c
  · rw [decide_eq_true h, h]; simp [Nat.mod_eq_of_lt hc]
  · rw [decide_eq_false h, beq_eq_false_iff_ne]
    intro e
    apply h
    apply UInt8.toNat_inj.1
    have : b.toNat = c := by omega
    rw [this]; simp [Nat.mod_eq_of_lt hc]

set_option maxHeartbeats 8000000 in
set_option maxRecDepth 100000 in
theorem refParse_any (s : ByteArray) (w : World) (hs : s.size ≤ 9223372036854775807) :
    Calls Tryd.prog 27 #[.string s] w fun e w' => e = .returned (.tuple #[.int .i64 (optV (Csh.refE s.data.toList)), .int .i64 (optE (Csh.refE s.data.toList))]) ∧ w' = w := by
  have hl : s.data.toList.length = s.size := by simp
  by_cases h4 : (s.size : Int) < 4
  · have HN : Hid (Csh.refE s.data.toList = none) := by show _ = _; unfold Csh.refE; rw [if_pos (by omega)]
    go_enter Tryd.func27, Tryd.ntmps27
    go_wp2
    go_ret2
    exact ⟨by rw [HN.out]; rfl, rfl⟩
  by_cases h21 : (21 : Int) < (s.size : Int)
  · have HN : Hid (Csh.refE s.data.toList = none) := by show _ = _; unfold Csh.refE; rw [if_pos (by omega)]
    go_enter Tryd.func27, Tryd.ntmps27
    go_wp2
    go_ret2
    exact ⟨by rw [HN.out]; rfl, rfl⟩
  have hz : 0 < s.size := by omega
  have HRE : Hid (Csh.refE s.data.toList = match Csh.readR 0 (restR s.data.toList 0) with | none => none | some n => if s.data.toList.head? = some 45 then Csh.lastR s.data.toList n else if n < -9223372036854775807 then none else Csh.lastR s.data.toList (-n)) := by
    show _ = _
    unfold Csh.refE
    rw [if_neg (by omega)]; rfl
  obtain ⟨bl, hbl⟩ : ∃ bl : Bool, (((s[0]'hz).toNat : Int) == 45) = bl := ⟨_, rfl⟩
  have h0 : s.data.toList[0]'(by rw [hl]; exact hz) = s[0]'hz := rfl
  have HB : Hid (bl = decide (s.data.toList.head? = some 45) ∧ bl = decide (s[0]'hz = 45)) := by
    have e : bl = decide (s[0]'hz = 45) := by rw [← hbl]; exact byte_ne (c := 45) (by omega)
    refine ⟨?_, e⟩
    rw [e, List.head?_eq_getElem?, List.getElem?_eq_getElem (by rw [hl]; exact hz), h0]
    simp
  have HSH : Hid (∀ a : Int, -9223372036854775808 ≤ a → a ≤ 9223372036854775807 → Calls Tryd.prog 29 #[.int .i64 a] w fun e w' => e = .returned (.string ⟨(Csh.showE a).toArray⟩) ∧ w' = w) := fun a h0 h1 => refShow_any a w h0 h1
  have HEQ : Hid (∀ t : List UInt8, (t == s.toList) = decide (t = s.data.toList)) := by
    intro t
    rw [show s.toList = s.data.toList from ByteArray.toList_eq s]
    by_cases h : t = s.data.toList
    · rw [decide_eq_true h]; exact beq_iff_eq.2 h
    · rw [decide_eq_false h]; exact beq_eq_false_iff_ne.2 h
  clear h0
  go_enter Tryd.func27, Tryd.ntmps27
  go_wp2
  clear hbl
  go_loop [4, 6] (fun n i => ∃ (k : Nat) (v : Int), k ≤ s.size ∧ i = .int .i64 k ∧ n = .int .i64 v ∧ -9223372036854775808 ≤ v ∧ v ≤ 0 ∧ (k = 0 → v = 0) ∧ Csh.readR 0 (restR s.data.toList 0) = Csh.readR v (restR s.data.toList k)) (fun _ i => s.size - (intOf i).toNat)
  case atStart => exact ⟨0, 0, by omega, rfl, rfl, by omega, by omega, fun _ => rfl, rfl⟩
  case round =>
    obtain ⟨k, v, hk, rfl, rfl, hv0, hv1, hvz, hq⟩ := hrel
    have HQ : Hid (Csh.readR 0 (restR s.data.toList 0) = Csh.readR v (restR s.data.toList k)) := hq
    clear hq
    by_cases hlt : k < s.size
    · have h8 : (s[k]'hlt).toNat < 256 := (s[k]'hlt).toNat_lt
      have hgk : s.data.toList[k]'(by rw [hl]; exact hlt) = s[k]'hlt := rfl
      by_cases hskip : k = 0 ∧ s[k]'hlt = 45
      · obtain ⟨rfl, h45⟩ := hskip
        obtain rfl : bl = true := by rw [HB.out.2]; simpa using h45
        have HS : Hid (restR s.data.toList 0 = restR s.data.toList 1) := rest_skip _ (by omega) (hgk.trans h45)
        have h46 : (((s[0]'hlt).toNat : Int) == 46) = false := by rw [h45]; rfl
        clear h45 hgk
        go_wp2
        go_round
        case rel => exact ⟨1, v, by omega, by go_num, rfl, hv0, hv1, fun e => by omega, by rw [HQ.out, HS.out]⟩
        case measure => simp [intOf]; omega
      · have hcons := rest_cons s.data.toList k (by omega) (by rw [hgk]; by_cases e : k = 0; exact Or.inr (fun x => hskip ⟨e, x⟩); exact Or.inl e)
        rw [hgk] at hcons
        have hstep : Csh.readR v (restR s.data.toList k) = match Csh.stepR v (s[k]'hlt) with | none => none | some m => Csh.readR m (restR s.data.toList (k + 1)) := by rw [hcons, Csh.readR_cons]; rfl
        have HST : Hid (Csh.readR v (restR s.data.toList k) = match Csh.stepR v (s[k]'hlt) with | none => none | some m => Csh.readR m (restR s.data.toList (k + 1))) := hstep
        have hkb : ¬ (k = 0 ∧ bl = true) := by
          rintro ⟨rfl, e⟩
          apply hskip
          refine ⟨rfl, ?_⟩
          have := HB.out.2
          rw [e] at this
          simpa using this.symm
        clear hcons hstep hgk
        obtain ⟨b, hb⟩ : ∃ b, s[k]'hlt = b := ⟨_, rfl⟩
        rw [hb] at h8 HST hskip
        have hb' : ((s[k]'hlt).toNat : Int) = (b.toNat : Int) := by rw [hb]
        by_cases h46 : b = 46
        · have h46' : ((b.toNat : Int) == 46) = true := by rw [h46]; rfl
          have HM : Hid (Csh.stepR v b = some v) := by show _ = _; unfold Csh.stepR; rw [if_pos h46]
          clear h46 hskip hb
          go_wp2
          go_round
          case rel => exact ⟨k + 1, v, by omega, by go_num, rfl, hv0, hv1, fun e => by omega, by rw [HQ.out, HST.out, HM.out]⟩
          case measure => simp [intOf]; omega
        · have h46' : ((b.toNat : Int) == 46) = false := by
            have := byte_ne (b := b) (c := 46) (by omega)
            rw [show ((46 : Nat) : Int) = 46 by rfl] at this
            rw [this]; simpa using h46
          have hm : Csh.stepR v b = if (b.toNat : Int) - 48 < 0 ∨ (b.toNat : Int) - 48 > 9 ∨ v < -922337203685477580 ∨ (v = -922337203685477580 ∧ (b.toNat : Int) - 48 > 8) then none else some (10 * v - ((b.toNat : Int) - 48)) := by unfold Csh.stepR; rw [if_neg h46]
          have hkk : ((k : Int) == 0) = false ∨ (((k : Int) == 0) = true ∧ bl = false) := by
            by_cases e : k = 0
            · right
              refine ⟨by rw [e]; rfl, ?_⟩
              cases bl
              · rfl
              · exact absurd ⟨e, rfl⟩ hkb
            · left; rw [beq_eq_false_iff_ne]; omega
          have HMM : Hid (Csh.stepR v b = if (b.toNat : Int) - 48 < 0 ∨ (b.toNat : Int) - 48 > 9 ∨ v < -922337203685477580 ∨ (v = -922337203685477580 ∧ (b.toNat : Int) - 48 > 8) then none else some (10 * v - ((b.toNat : Int) - 48))) := hm
          clear hm h46 hskip hkb hb
          have hbad : ∀ (h : (b.toNat : Int) - 48 < 0 ∨ (b.toNat : Int) - 48 > 9 ∨ v < -922337203685477580 ∨ (v = -922337203685477580 ∧ (b.toNat : Int) - 48 > 8)), Csh.refE s.data.toList = none := by
            intro h
            rw [HRE.out, HQ.out, HST.out, HMM.out, if_pos h]
          have HBAD : Hid (∀ (h : (b.toNat : Int) - 48 < 0 ∨ (b.toNat : Int) - 48 > 9 ∨ v < -922337203685477580 ∨ (v = -922337203685477580 ∧ (b.toNat : Int) - 48 > 8)), Csh.refE s.data.toList = none) := hbad
          clear hbad
          rcases hkk with hkk | ⟨hkk, rfl⟩
          all_goals
            by_cases g1 : (b.toNat : Int) - 48 < 0
            · have HN : Hid (Csh.refE s.data.toList = none) := HBAD.out (by omega)
              go_wp2
              go_ret2
              exact ⟨by rw [HN.out]; rfl, rfl⟩
            by_cases g2 : 9 < (b.toNat : Int) - 48
            · have HN : Hid (Csh.refE s.data.toList = none) := HBAD.out (by omega)
              go_wp2
              go_ret2
              exact ⟨by rw [HN.out]; rfl, rfl⟩
            by_cases g3 : v < -922337203685477580
            · have HN : Hid (Csh.refE s.data.toList = none) := HBAD.out (by omega)
              go_wp2
              go_ret2
              exact ⟨by rw [HN.out]; rfl, rfl⟩
            by_cases g4 : v = -922337203685477580
            · have g4' : (v == -922337203685477580) = true := by simpa using g4
              by_cases g5 : 8 < (b.toNat : Int) - 48
              · have HN : Hid (Csh.refE s.data.toList = none) := HBAD.out (by omega)
                clear g4
                go_wp2
                go_ret2
                exact ⟨by rw [HN.out]; rfl, rfl⟩
              · have HM : Hid (Csh.stepR v b = some (10 * v - ((b.toNat : Int) - 48))) := by show _ = _; rw [HMM.out, if_neg (by omega)]
                have hr1 : -9223372036854775808 ≤ 10 * v - ((b.toNat : Int) - 48) := by omega
                have hr2 : 10 * v - ((b.toNat : Int) - 48) ≤ 0 := by omega
                clear g4
                go_wp2
                go_round
                case rel => exact ⟨k + 1, _, by omega, by go_num, rfl, hr1, hr2, fun e => by omega, by rw [HQ.out, HST.out, HM.out]⟩
                case measure => simp [intOf]; omega
            · have g4' : (v == -922337203685477580) = false := by simpa using g4
              have HM : Hid (Csh.stepR v b = some (10 * v - ((b.toNat : Int) - 48))) := by show _ = _; rw [HMM.out, if_neg (by omega)]
              have hr1 : -9223372036854775808 ≤ 10 * v - ((b.toNat : Int) - 48) := by omega
              have hr2 : 10 * v - ((b.toNat : Int) - 48) ≤ 0 := by omega
              go_wp2
              go_round
              case rel => exact ⟨k + 1, _, by omega, by go_num, rfl, hr1, hr2, fun e => by omega, by rw [HQ.out, HST.out, HM.out]⟩
              case measure => simp [intOf]; omega
    · have hkl : k = s.data.toList.length := by omega
      have he : Csh.readR v (restR s.data.toList k) = some v := by rw [hkl, rest_end _ (by omega)]; rfl
      have HF : Hid (Csh.refE s.data.toList = if s.data.toList.head? = some 45 then Csh.lastR s.data.toList v else if v < -9223372036854775807 then none else Csh.lastR s.data.toList (-v)) := by
        show _ = _
        rw [HRE.out, HQ.out, he]
      clear he hkl
      cases hbb : bl with
      | true =>
        have h45 : s.data.toList.head? = some 45 := by have := HB.out.1; rw [hbb] at this; simpa using this.symm
        have HF2 : Hid (Csh.refE s.data.toList = Csh.lastR s.data.toList v) := by show _ = _; rw [HF.out, if_pos h45]
        have heq := HEQ.out (Csh.showE v)
        have HSV : Hid (Calls Tryd.prog 29 #[.int .i64 v] w fun e w' => e = .returned (.string ⟨(Csh.showE v).toArray⟩) ∧ w' = w) := HSH.out v (by omega) (by omega)
        have HL : Hid (Csh.lastR s.data.toList v = if Csh.showE v = s.data.toList then some v else none) := rfl
        generalize Csh.showE v = t at *
        subst hbb
        clear h45
        by_cases ht : t = s.data.toList
        · rw [decide_eq_true ht] at heq
          rw [if_pos ht] at HL
          clear ht
          go_wp2_with fail
          refine HSV.out.mono ?_
          rintro e w1 ⟨rfl, hw1⟩; obtain rfl := hw1.symm
          go_wp2
          go_ret2
          exact ⟨by rw [HF2.out, HL.out]; rfl, rfl⟩
        · rw [decide_eq_false ht] at heq
          rw [if_neg ht] at HL
          clear ht
          go_wp2_with fail
          refine HSV.out.mono ?_
          rintro e w1 ⟨rfl, hw1⟩; obtain rfl := hw1.symm
          go_wp2
          go_ret2
          exact ⟨by rw [HF2.out, HL.out]; rfl, rfl⟩
      | false =>
        have h45 : ¬ s.data.toList.head? = some 45 := by have := HB.out.1; rw [hbb] at this; simpa using this.symm
        by_cases hlo : v < -9223372036854775807
        · have HF2 : Hid (Csh.refE s.data.toList = none) := by show _ = _; rw [HF.out, if_neg h45, if_pos hlo]
          subst hbb
          clear h45
          go_wp2
          go_ret2
          exact ⟨by rw [HF2.out]; rfl, rfl⟩
        · have HF2 : Hid (Csh.refE s.data.toList = Csh.lastR s.data.toList (-v)) := by show _ = _; rw [HF.out, if_neg h45, if_neg hlo]
          have heq := HEQ.out (Csh.showE (-v))
          have HSV : Hid (Calls Tryd.prog 29 #[.int .i64 (-v)] w fun e w' => e = .returned (.string ⟨(Csh.showE (-v)).toArray⟩) ∧ w' = w) := HSH.out (-v) (by omega) (by omega)
          have HL : Hid (Csh.lastR s.data.toList (-v) = if Csh.showE (-v) = s.data.toList then some (-v) else none) := rfl
          generalize Csh.showE (-v) = t at *
          subst hbb
          clear h45
          by_cases ht : t = s.data.toList
          · rw [decide_eq_true ht] at heq
            rw [if_pos ht] at HL
            clear ht
            go_wp2_with fail
            refine HSV.out.mono ?_
            rintro e w1 ⟨rfl, hw1⟩; obtain rfl := hw1.symm
            go_wp2
            go_ret2
            exact ⟨by rw [HF2.out, HL.out]; rfl, rfl⟩
          · rw [decide_eq_false ht] at heq
            rw [if_neg ht] at HL
            clear ht
            go_wp2_with fail
            refine HSV.out.mono ?_
            rintro e w1 ⟨rfl, hw1⟩; obtain rfl := hw1.symm
            go_wp2
            go_ret2
            exact ⟨by rw [HF2.out, HL.out]; rfl, rfl⟩
end Go.Proofs.YtmidlcipbpchgabDoor
