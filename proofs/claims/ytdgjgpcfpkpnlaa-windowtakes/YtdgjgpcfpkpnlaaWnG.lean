
/- window: Missing, as the program and as the document has it. -/
import Derived.Test.YtdgjgpcfpkpnlaaWnT
namespace Go.Proofs.Ytdgjgpcfpkpnlaa
open Go.RowKit
open Wn (Wd)

theorem cell_one (w : World) (v : Value) (t : TypeId) : ∀ j u, [v][j]? = some u → (w.alloc (.cells #[v] t)).cell? ((⟨w.heap.size, 0, none⟩ : Addr).add j) = some u := by
  intro j u hu
  cases j with
  | zero => simp at hu; subst hu; simp [Addr.add]
  | succ j => simp at hu
theorem own_slice {w : World} {base : Nat} {e : TypeId} {size n : Nat} {v : Value} {xs : List Value} (h : w.ownsRow base e size v n xs) : ∃ ad cap, v = .slice ad n cap := by
  obtain ⟨h1, ⟨rfl, h2⟩ | ⟨g, cap, cur, rfl, _⟩⟩ := h
  · exact ⟨none, 0, by rw [h2]⟩
  · exact ⟨_, _, rfl⟩
def MsR (w w' : World) (e : Ending) (L : List Int) : Prop := ∃ ad cap, e = .returned (.slice ad L.length cap) ∧ IntsAt w' ad L ∧ Gr w w'
theorem rng_cons {a b : Int} (h : a ≤ b) : Wn.rng a b = a :: Wn.rng (a + 1) b := by
  refine Wn.up_ext _ _ (Wn.up_rng _ _) (List.pairwise_cons.2 ⟨fun n hn => by have := (Wn.mem_rng _ _ _).1 hn; omega, Wn.up_rng _ _⟩) (fun n => ?_)
  rw [List.mem_cons, Wn.mem_rng, Wn.mem_rng]; omega
theorem mis_at {l : List Int} {k : Nat} (hk : k < l.length) (a : Int) : Wn.mis a (l.drop k) = Wn.rng a (l[k] - 1) ++ Wn.mis (l[k] + 1) (l.drop (k + 1)) := by
  rw [List.drop_eq_getElem_cons hk]; rfl
set_option maxHeartbeats 8000000 in
set_option maxRecDepth 100000 in
theorem miss_any (W : Wd) (ad : Option Addr) (cap : Nat) (w : World) (h : WdAt w ad cap W) :
    Calls Try.prog 13 #[wdV W.low ad W.seen.length cap] w fun e w' => MsR w w' e (Wn.miss W) := by
  have HM : Hid (∀ w', Gr w w' → Calls Try.prog 9 #[wdV W.low ad W.seen.length cap] w' fun e w2 => e = .returned (.int .i64 (mayE W)) ∧ Gr w' w2) := fun w' g => may_any W ad cap w' (h.gr g)
  by_cases hm : Wn.may W = true
  · have e0 : mayE W = 0 := by unfold mayE; rw [if_pos hm]
    rw [e0] at HM
    obtain ⟨hlo, hup, hsn⟩ := (Wn.may_iff W).1 hm
    have hle := Wn.may_len hm
    have hml := Wn.miss_len hm
    have HE := Lib.hid (Wn.mis_miss hm)
    have HR := Lib.hid h.row
    have HSn := Lib.hid hsn
    obtain ⟨i0, hi0, hz0, hz1, hz2⟩ := info_parts infoN
    clear h hm e0 hup hsn
    generalize Wn.miss W = L at *
    obtain ⟨low, l⟩ := W
    simp only at *
    go_enter Try.func13, Try.ntmps13
    go_wp2_with fail
    refine (HM.out _ (by repeat (first | exact Gr.refl _ | refine Gr.alloc ?_ | refine Gr.drew ?_ | refine Gr.trans ?_ (by assumption)))).mono ?_
    rintro e w1 ⟨rfl, hg1⟩
    have G1 : Hid (Gr w w1) := (Gr.refl w).alloc.trans hg1
    obtain ⟨d0, d1, _, _, dt⟩ := (Bx2.new w (.int .i64 low) (.slice ad l.length cap) 24 w.heap.size rfl).gr hg1
    have HR1 := Lib.hid (HR.out.gr G1.out)
    clear hg1 HM HR
    go_wp2
    go_loopw [3, 4, 16] (fun v t i wr => ∃ (k : Nat) (a : Int) (D : List Int), k ≤ l.length ∧ i = .int .i64 (k : Int) ∧ t = .int .i64 a ∧ 0 ≤ a ∧ a ≤ 2000000000 ∧ L = D ++ Wn.mis a (l.drop k) ∧ wr.ownsRow w1.heap.size 3 1 v D.length (intV D) ∧ Gr w1 wr) (fun _ _ i _ => l.length - (intOf i).toNat)
    case atStart => exact ⟨0, low + 1, [], Nat.zero_le _, rfl, by go_num, by omega, by omega, HE.out.symm, World.ownsRow_nil _ _ _ _, Gr.refl _⟩
    case round =>
      rename_i v t
      obtain ⟨k, a, D, hk, rfl, rfl, ha0, ha1, heq, hown, hg⟩ := hrel
      have HG := Lib.hid hg
      have HO := Lib.hid hown
      by_cases hlt : k < l.length
      · obtain ⟨b, off, rfl, hb, hc⟩ := HR1.out k hlt
        have hc := hg.keep hc
        have hd1 := hg.keep d1
        have hn := HSn.out l[k] (List.getElem_mem hlt)
        rw [mis_at hlt] at heq
        have HQ := Lib.hid heq
        clear heq hown hg
        generalize l[k] = n at *
        obtain ⟨wo, rfl⟩ : ∃ x, x = wr := ⟨_, rfl⟩
        go_wp2
        go_loopw [3, 4] (fun v t wr2 => ∃ (a2 : Int) (D2 : List Int), t = .int .i64 a2 ∧ a2 ≤ 2000000000 ∧ 0 ≤ a2 ∧ L = D2 ++ (Wn.rng a2 (n - 1) ++ Wn.mis (n + 1) (l.drop (k + 1))) ∧ wr2.ownsRow w1.heap.size 3 1 v D2.length (intV D2) ∧ Gr w1 wr2) (fun _ t _ => (n - intOf t).toNat)
        case atStart => exact ⟨a, D, rfl, ha1, ha0, HQ.out, HO.out, HG.out⟩
        case round =>
          rename_i v2
          obtain ⟨a2, D2, rfl, h21, h20, heq2, hown, hg⟩ := hrel
          by_cases hjl : a2 < n
          · rw [rng_cons (show a2 ≤ n - 1 by omega)] at heq2
            have hdl : D2.length < L.length := by rw [heq2]; simp
            have HQ2 : Hid (L = (D2 ++ [a2]) ++ (Wn.rng (a2 + 1) (n - 1) ++ Wn.mis (n + 1) (l.drop (k + 1)))) := by show _ = _; rw [heq2]; simp
            have HE2 := Lib.hid (intV_snoc D2 a2)
            have hs2 := hg.size
            have hm1 : D2.length + 1 ≤ maxLen := by unfold maxLen; omega
            obtain ⟨va, vc, rfl⟩ := own_slice hown
            clear heq2
            go_wp2_with (first
              | (at_builtin; refine wpList_append_own _ rfl _ _ 22 rfl w1.heap.size 3 i0 (.int .i64 0) 1 8 Try.underlying22 hi0 hz0 hz1 hz2 rfl (by decide) _ _ _ rfl (hown.alloc _) ⟨wr.heap.size, 0, none⟩ 1 1 [.int .i64 a2] rfl rfl (cell_one _ _ _) (by intro u hu; simp at hu; subst hu; rfl) hm1 (by omega) (by simp; omega) ?_)
              | fail)
            intro v' w2 hown' hgrow _
            have HG1 : Hid (Gr w1 w2) := hg.alloc.grown hgrow (fun q hq => (hown.lt q hq).1)
            have HO1 := Lib.hid hown'
            clear hown' hgrow hown hg
            go_wp2
            go_roundw
            case rel => exact ⟨a2 + 1, D2 ++ [a2], by go_num, by omega, by omega, HQ2.out, by rw [HE2.out, List.length_append]; exact HO1.out, HG1.out⟩
            case measure => simp [intOf]; omega
          · rw [Wn.rng_none (show n - 1 < a2 by omega), List.nil_append] at heq2
            have HQ2 := Lib.hid heq2
            have HG2 := Lib.hid hg
            have HO2 := Lib.hid hown
            clear heq2 hown hg
            go_wp2
            go_roundw
            case rel => exact ⟨k + 1, n + 1, D2, by omega, by go_num, by go_num, by omega, by omega, HQ2.out, HO2.out, HG2.out⟩
            case measure => simp [intOf]; omega
      · rw [List.drop_eq_nil_of_le (by omega)] at heq
        have heq' : L = D := by rw [heq]; simp [Wn.mis]
        subst heq'
        have hd1 := hg.keep d1
        obtain ⟨ad2, cap2, rfl, _, hia, _, _⟩ := own_intsN hown
        have HI := Lib.hid hia
        clear hown hg heq hia
        go_wp2
        go_ret
        exact ⟨ad2, cap2, rfl, HI.out, G1.out.trans HG.out⟩
  · have e0 : mayE W = 2 := by unfold mayE; rw [if_neg hm]
    rw [e0] at HM
    have HE : Hid (Wn.miss W = []) := Wn.miss_bad (by simpa using hm)
    clear h hm e0
    go_enter Try.func13, Try.ntmps13
    go_wp2_with fail
    refine (HM.out _ (by repeat (first | exact Gr.refl _ | refine Gr.alloc ?_ | refine Gr.drew ?_ | refine Gr.trans ?_ (by assumption)))).mono ?_
    rintro e w1 ⟨rfl, hg1⟩
    have G1 : Hid (Gr w w1) := (Gr.refl w).alloc.trans hg1
    clear hg1 HM
    go_wp2
    go_ret
    rw [HE.out]
    exact ⟨none, 0, rfl, IntsAt.nil, G1.out⟩
theorem filt_one (f : Int → Bool) (a : Int) : [a].filter (fun n => !f n) = if f a = true then [] else [a] := by cases h : f a <;> simp [h]
theorem last_at {l : List Int} (h : 0 < l.length) : Wn.lastE l = l[l.length - 1] := by
  unfold Wn.lastE
  rw [List.getLastD_eq_getLast?, List.getLast?_eq_getElem?, List.getElem?_eq_getElem (by omega)]; rfl
set_option maxHeartbeats 8000000 in
set_option maxRecDepth 100000 in
theorem rmiss_any (W : Wd) (ad : Option Addr) (cap : Nat) (w : World) (h : WdAt w ad cap W) :
    Calls Try.prog 14 #[wdV W.low ad W.seen.length cap] w fun e w' => MsR w w' e (Wn.miss W) := by
  have HM : Hid (∀ w', Gr w w' → Calls Try.prog 10 #[wdV W.low ad W.seen.length cap] w' fun e w2 => e = .returned (.int .i64 (mayE W)) ∧ Gr w' w2) := fun w' g => rmay_any W ad cap w' (h.gr g)
  have HH : Hid (∀ w' n, Gr w w' → Calls Try.prog 20 #[wdV W.low ad W.seen.length cap, .int .i64 n] w' fun e w2 => e = .returned (.bool (Wn.has W n)) ∧ Gr w' w2) := fun w' n g => rhas_any W n ad cap w' (h.gr g)
  by_cases hm : Wn.may W = true
  · have e0 : mayE W = 0 := by unfold mayE; rw [if_pos hm]
    rw [e0] at HM
    obtain ⟨hlo, hup, hsn⟩ := (Wn.may_iff W).1 hm
    have hle := Wn.may_len hm
    have hml := Wn.miss_len hm
    by_cases hz : W.seen.length = 0
    · have HE : Hid (Wn.miss W = []) := by
        show _ = _
        unfold Wn.miss
        rw [if_neg (fun c => c.2 (List.length_eq_zero_iff.1 hz))]
      rw [hz] at HM
      clear h hm e0 hup hsn HH hml
      rw [hz]
      clear hz hle
      generalize Wn.miss W = L at *
      generalize W.low = low at *
      go_enter Try.func14, Try.ntmps14
      go_wp2_with fail
      refine (HM.out _ (by repeat (first | exact Gr.refl _ | refine Gr.alloc ?_ | refine Gr.drew ?_ | refine Gr.trans ?_ (by assumption)))).mono ?_
      rintro e w1 ⟨rfl, hg1⟩
      have G1 : Hid (Gr w w1) := (Gr.refl w).alloc.trans hg1
      obtain ⟨d0, d1, _, _, dt⟩ := (Bx2.new w (.int .i64 low) (.slice ad 0 cap) 24 w.heap.size rfl).gr hg1
      clear hg1 HM
      go_wp2
      go_ret
      rw [HE.out]
      exact ⟨none, 0, rfl, IntsAt.nil, G1.out⟩
    · have HE : Hid (Wn.miss W = (Wn.rng (W.low + 1) (Wn.lastE W.seen - 1)).filter (fun n => !Wn.has W n)) := by
        show _ = _
        unfold Wn.miss
        rw [if_pos ⟨hm, fun e => hz (by rw [e]; rfl)⟩]; rfl
      have hlm := hsn _ (Wn.last_mem (l := W.seen) (fun e => hz (by rw [e]; rfl)))
      have hla := last_at (l := W.seen) (by omega)
      obtain ⟨b, off, hade, hb, hc⟩ := h.row (W.seen.length - 1) (by omega)
      rw [← hla] at hc
      obtain ⟨i0, hi0, hz0, hz1, hz2⟩ := info_parts infoN
      have hzi : ((W.seen.length : Int) == 0) = false := by rw [beq_eq_false_iff_ne]; omega
      have hk1 : (W.seen.length : Int) - 1 = ((W.seen.length - 1 : Nat) : Int) := by omega
      have hk2 : ((W.seen.length - 1 : Nat) : Int) < (W.seen.length : Int) := by omega
      clear h hm e0 hup hsn hla
      subst hade
      generalize Wn.miss W = L at *
      generalize hX : Wn.lastE W.seen = x at *
      have HF : Hid (∀ n, (Wn.rng (W.low + 1) n).filter (fun n => !Wn.has W n) = (Wn.rng (W.low + 1) n).filter (fun n => !Wn.has W n)) := fun _ => rfl
      generalize hN : W.seen.length - 1 = ln at *
      clear hX
      obtain ⟨low, l⟩ := W
      simp only at *
      go_enter Try.func14, Try.ntmps14
      go_wp2_with fail
      refine (HM.out _ (by repeat (first | exact Gr.refl _ | refine Gr.alloc ?_ | refine Gr.drew ?_ | refine Gr.trans ?_ (by assumption)))).mono ?_
      rintro e w1 ⟨rfl, hg1⟩
      have G1 : Hid (Gr w w1) := (Gr.refl w).alloc.trans hg1
      obtain ⟨d0, d1, _, _, dt⟩ := (Bx2.new w (.int .i64 low) (.slice (some ⟨b, off, none⟩) l.length cap) 24 w.heap.size rfl).gr hg1
      have hc1 := G1.out.keep hc
      clear hg1 HM hc HF
      go_wp2
      go_loopw [3, 4] (fun v t wr => ∃ (a : Int) (D : List Int), t = .int .i64 a ∧ low + 1 ≤ a ∧ a ≤ x ∧ D = (Wn.rng (low + 1) (a - 1)).filter (fun n => !Wn.has ⟨low, l⟩ n) ∧ wr.ownsRow w1.heap.size 3 1 v D.length (intV D) ∧ Gr w1 wr) (fun _ t _ => (x - intOf t).toNat)
      case atStart => exact ⟨low + 1, [], by go_num, by omega, by omega, by rw [Wn.rng_none (by omega)]; rfl, World.ownsRow_nil _ _ _ _, Gr.refl _⟩
      case round =>
        rename_i v
        obtain ⟨a, D, rfl, ha0, ha1, heq, hown, hg⟩ := hrel
        have hd0 := hg.keep d0
        have hd1 := hg.keep d1
        have hcr := hg.keep hc1
        have hs1 := hg.size
        by_cases hlt : a < x
        · have hDl : D.length ≤ 16 := by
            rw [heq]
            have h1 := List.length_filter_le (fun n => !Wn.has ⟨low, l⟩ n) (Wn.rng (low + 1) (a - 1))
            have h2 := Wn.len_rng (low + 1) (a - 1)
            omega
          have HS := Lib.hid (show (Wn.rng (low + 1) (a + 1 - 1)).filter (fun n => !Wn.has ⟨low, l⟩ n) = D ++ (if Wn.has ⟨low, l⟩ a = true then [] else [a]) by
            rw [heq, show a + 1 - 1 = a by omega, Wn.rng_snoc (show low + 1 ≤ a by omega), List.filter_append]
            rw [filt_one (fun n => Wn.has ⟨low, l⟩ n) a])
          have HG := Lib.hid hg
          have HO := Lib.hid hown
          have HH2 := Lib.hid (HH.out wr a (G1.out.trans hg))
          have hm1 : D.length + 1 ≤ maxLen := by unfold maxLen; omega
          clear heq hg hown
          cases hx : Wn.has ⟨low, l⟩ a with
          | true =>
            rw [hx] at HS HH2
            rw [if_pos rfl, List.append_nil] at HS
            clear hx
            go_wp2_with fail
            refine HH2.out.mono ?_
            rintro e w2 ⟨rfl, hg2⟩
            have HG2 := Lib.hid (HG.out.trans hg2)
            have HO2 := Lib.hid (row_gr HO.out hg2)
            clear hg2
            go_wp2
            go_roundw
            case rel => exact ⟨a + 1, D, by go_num, by omega, by omega, HS.out.symm, HO2.out, HG2.out⟩
            case measure => simp [intOf]; omega
          | false =>
            rw [hx] at HS HH2
            rw [if_neg (by simp)] at HS
            have HE2 := Lib.hid (intV_snoc D a)
            clear hx
            go_wp2_with fail
            refine HH2.out.mono ?_
            rintro e w2 ⟨rfl, hg2⟩
            have HG2 := Lib.hid (HG.out.trans hg2)
            have hown := row_gr HO.out hg2
            have hs2 := HG2.out.size
            obtain ⟨va, vc, rfl⟩ := own_slice hown
            clear hg2
            go_wp2_with (first
              | (at_builtin; refine wpList_append_own _ rfl _ _ 22 rfl w1.heap.size 3 i0 (.int .i64 0) 1 8 Try.underlying22 hi0 hz0 hz1 hz2 rfl (by decide) _ _ _ rfl (hown.alloc _) ⟨w2.heap.size, 0, none⟩ 1 1 [.int .i64 a] rfl rfl (cell_one _ _ _) (by intro u hu; simp at hu; subst hu; rfl) hm1 (by omega) (by simp; omega) ?_)
              | fail)
            intro v' w3 hown' hgrow _
            have HG3 : Hid (Gr w1 w3) := HG2.out.alloc.grown hgrow (fun q hq => (hown.lt q hq).1)
            have HO3 := Lib.hid hown'
            clear hown' hgrow hown
            go_wp2
            go_roundw
            case rel => exact ⟨a + 1, D ++ [a], by go_num, by omega, by omega, HS.out.symm, by rw [HE2.out, List.length_append]; exact HO3.out, HG3.out⟩
            case measure => simp [intOf]; omega
        · have hax : a = x := by omega
          subst hax
          have heq' : D = L := by rw [heq, HE.out]
          subst heq'
          obtain ⟨ad2, cap2, rfl, _, hia, _, _⟩ := own_intsN hown
          have HI := Lib.hid hia
          have HG := Lib.hid hg
          clear hown hg heq hia
          go_wp2
          go_ret
          exact ⟨ad2, cap2, rfl, HI.out, G1.out.trans HG.out⟩
  · have e0 : mayE W = 2 := by unfold mayE; rw [if_neg hm]
    rw [e0] at HM
    have HE : Hid (Wn.miss W = []) := Wn.miss_bad (by simpa using hm)
    clear h hm e0
    go_enter Try.func14, Try.ntmps14
    go_wp2_with fail
    refine (HM.out _ (by repeat (first | exact Gr.refl _ | refine Gr.alloc ?_ | refine Gr.drew ?_ | refine Gr.trans ?_ (by assumption)))).mono ?_
    rintro e w1 ⟨rfl, hg1⟩
    have G1 : Hid (Gr w w1) := (Gr.refl w).alloc.trans hg1
    clear hg1 HM
    go_wp2
    go_ret
    rw [HE.out]
    exact ⟨none, 0, rfl, IntsAt.nil, G1.out⟩
end Go.Proofs.Ytdgjgpcfpkpnlaa
