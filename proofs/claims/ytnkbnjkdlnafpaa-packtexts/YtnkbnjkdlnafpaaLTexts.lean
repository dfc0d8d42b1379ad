/- For every slice of strings the law PackTexts answers true: any texts are laid by package pack as the document's definition lays them. -/
import Derived.Test.YtnkbnjkdlnafpaaOpenS
import Derived.Test.YtnkbnjkdlnafpaaAwk
import Derived.Test.YtnkbnjkdlnafpaaTxtOne
import Derived.Test.YtnkbnjkdlnafpaaSmall
import Derived.Deep.RegionHeld3
namespace Go.Proofs.Ytnkbnjkdlnafpaa
open Go.ChangeShapes Go.WideShapes Go.ChangeAt Go.RowKit

set_option maxHeartbeats 1000000 in
set_option maxRecDepth 100000 in
theorem packTexts_walk (L : List ByteArray) (ad : Option Addr) (cap : Nat) (w : World) (hL : StrsAt w ad L) (hn : L.length ≤ 9223372036854775807) (hsz : ∀ s ∈ L, s.size ≤ 9223372036854775807) :
    Calls Try.prog 4 #[.slice ad L.length cap] w fun e w' => e = .returned (.bool true) ∧ Gr w w' := by
  have H1 : Hid (Calls Try.prog 14 #[.slice ad L.length cap] w fun e w' => e = .returned (.bool (Pk.small L)) ∧ w' = w) := small_any L ad cap w hL hn hsz
  cases hs : Pk.small L with
  | false =>
    rw [hs] at H1
    go_enter Try.func4, Try.ntmps4
    go_wp2_with fail
    refine H1.out.mono ?_
    rintro e w1 ⟨rfl, rfl⟩
    go_wp2_with fail
    refine (awake_any _).mono ?_
    rintro e w2 ⟨rfl, hg2⟩
    go_wp2
    go_ret
    exact ⟨rfl, (by repeat (first | exact Gr.refl _ | refine Gr.alloc ?_ | refine Gr.drew ?_ | refine Gr.trans ?_ (by assumption)))⟩
  | true =>
    rw [hs] at H1
    obtain ⟨hl1, hl2, hl3⟩ := Pk.small_sum L hs
    have H2 : Hid (∀ w' : World, Gr w w' → Calls Try.prog 17 #[.slice ad L.length cap] w' fun e w2 => e = .returned (.string ⟨(Pk.texts L).toArray⟩) ∧ Gr w' w2) := fun w' g => texts_any L ad cap w' (hL.gr g) (by omega) (by omega)
    have H3 : Hid (∀ w' : World, Gr w w' → Calls Try.prog 18 #[.slice ad L.length cap] w' fun e w2 => e = .returned (.string ⟨(Pk.texts L).toArray⟩) ∧ Gr w' w2) := fun w' g => refTexts_any L ad cap w' (hL.gr g) (by omega) (by omega) (fun s h => by have := hl3 s h; omega)
    have HL : Hid (StrsAt w ad L) := hL
    have HZ : Hid (∀ s ∈ L, s.size ≤ 50000) := hl3
    clear hL hsz hl3 hs hn hl1
    generalize Pk.texts L = tx at *
    go_enter Try.func4, Try.ntmps4
    go_wp2_with fail
    refine H1.out.mono ?_
    rintro e w1 ⟨rfl, rfl⟩
    clear H1
    go_wp2_with fail
    go_loopw [3] (fun i wr => ∃ k : Nat, k ≤ L.length ∧ i = .int .i64 k ∧ Gr w1 wr) (fun i _ => L.length - (intOf i).toNat)
    case atStart => exact ⟨0, by omega, rfl, Gr.refl _⟩
    case round =>
      obtain ⟨k, hk, rfl, hg⟩ := hrel
      by_cases hlt : k < L.length
      · obtain ⟨b, off, rfl, hbl, hc⟩ := HL.out k hlt
        have hc' : wr.cell? ⟨b, off + k, none⟩ = some (.string L[k]) := hg.keep hc
        have hz := HZ.out L[k] (List.getElem_mem hlt)
        have HX : Hid (∀ w : World, Calls Try.prog 15 #[.string L[k]] w fun e w' => e = .returned (.string ⟨(Pk.text (L[k]).data.toList).toArray⟩) ∧ Gr w w') := fun w => text_any L[k] w (by omega)
        have HY : Hid (∀ w : World, Calls Try.prog 16 #[.string L[k]] w fun e w' => e = .returned (.string ⟨(Pk.text (L[k]).data.toList).toArray⟩) ∧ Gr w w') := fun w => refText_any L[k] w (by omega)
        generalize hsv : L[k] = sv at *
        generalize Pk.text sv.data.toList = tt at *
        have hb1 : (0 : Int) ≤ (k : Int) := by omega
        have hb2 : (k : Int) < (L.length : Int) := by omega
        clear hc hsv H2 H3
        go_wp2_with fail
        go_region_held3 (fun w' => w'.cell? ⟨b, off + k, none⟩ = some (.string sv)) ((first | assumption | exact Gr.keep (by assumption) (by assumption))) ((first | (go_at_call 15; refine (HX.out _).mono ?_; rintro e w2 ⟨rfl, hg2⟩) | (go_at_call 16; refine (HY.out _).mono ?_; rintro e w3 ⟨rfl, hg3⟩)))
        all_goals go_wp2
        all_goals (go_roundw; (case rel => exact ⟨k + 1, by omega, by go_num, (by repeat (first | exact Gr.refl _ | refine Gr.alloc ?_ | refine Gr.drew ?_ | refine Gr.trans ?_ (by assumption)))⟩); (case measure => simp [intOf]; omega))
      · go_wp2_with fail
        refine (H2.out _ hg).mono ?_
        rintro e w2 ⟨rfl, hg2⟩
        go_wp2_with fail
        refine (H3.out _ (hg.trans hg2)).mono ?_
        rintro e w3 ⟨rfl, hg3⟩
        go_wp2_with fail
        refine (awake_any _).mono ?_
        rintro e w4 ⟨rfl, hg4⟩
        go_wp2
        go_ret
        exact ⟨by simp, (by repeat (first | exact Gr.refl _ | refine Gr.alloc ?_ | refine Gr.drew ?_ | refine Gr.trans ?_ (by assumption)))⟩

theorem texts_own : ownKnob Try.prog.godebug = none := by kernel_rfl
theorem texts_laidOut : laidOutB Try.prog = true := by kernel_rfl

set_option maxRecDepth 100000 in
theorem packTexts_lifted (os : Os) (started : os.Started) (H : Type) (enc : TypeId × Value → H) :
    ReturnsInHanded {} Try.checked os 4 .any (Rows.packTextsSpec.pre6 enc Try.prog Try.f4 Rows.packTextsRow.domain false) (Rows.packTextsSpec.post enc Try.prog Try.f4 false true false false) := by
  refine returnsInHanded_of_change (C := Try.checked) texts_own started (by kernel_rfl) Try.func4
    (ChangeSpec.witness6 (enc := enc) (C := Try.checked) false ⟨#[], #[.slice none 0 0], []⟩ 8 (by kernel_rfl) (by kernel_rfl) (by kernel_rfl) (by kernel_rfl)) ?_
  intro W base args ds gs before hval0 hW hcnd _
  have hval : ∀ (j : Nat) t v, Try.f4.params[j]? = some t → args[j]? = some v → Value.okWide Try.prog W .any base t v := hval0
  have hW' := hW
  obtain ⟨p, q, hA0, hV, rfl, hfz, hnd⟩ := hW
  have hA : DataW.TrodAll enc Try.prog W 0 (fun _ => true) true Try.f4.params.toList args.toList ds p := hA0
  rw [Try.params4] at hA hval
  obtain ⟨v0, d0, rfl, rfl, h0⟩ := trodAll_one hA
  obtain ⟨rfl, rfl⟩ := trodVars_none hV
  have k0 := h0
  have lt0 : ∀ x ∈ p, x.block < W.heap.size := by obtain ⟨m, hm⟩ := k0; exact DataW.trod_lt m _ _ _ hm
  obtain ⟨ad, cap, L, rfl, hL, hn, hsz⟩ := open_strs (hval 0 27 v0 rfl rfl) h0
  clear hA0 hval0
  refine (packTexts_walk L ad cap W hL hn hsz).mono fun e W' ⟨he, hg⟩ => ?_
  subst he
  exact ⟨_, rfl, _, _, _, [], _, [], hW', trodAll_mk1 (shut_bool Try.underlying4 _), trodAll_mk1 (Below.trod texts_laidOut (by kernel_rfl) (of_decide_eq_true (by kernel_rfl)) k0 hg.below lt0), rfl, hg.below.frame _, fun h => by cases h⟩

theorem packTexts_holds : Rows.PackTextsSaid :=
  OpenClaim.holds_of_wide 4 Try.f4 rfl rfl rfl rfl rfl rfl rfl ⟨rfl, rfl, rfl, rfl, rfl⟩ rfl rfl rfl rfl rfl (by kernel_rfl) Try.func4 (by kernel_rfl)
    (of_decide_eq_true (by kernel_rfl)) (by unfold Func.isWrapper; first | (rw [if_pos (by decide +kernel)]; kernel_rfl) | (rw [if_neg (by decide +kernel)]; exact ⟨rfl, rfl⟩))
    (fun os started H enc _ => packTexts_lifted os started H enc)
end Go.Proofs.Ytnkbnjkdlnafpaa
