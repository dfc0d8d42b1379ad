/- For every text the law LexicBlanks answers true: blanks and a remark ahead of it move its tokens, and change nothing else. -/
import Derived.Test.YtdlcmbbaicoicaaAwkX
import Derived.Test.YtdlcmbbaicoicaaOpenT
import Derived.Test.YtdlcmbbaicoicaaLexU
namespace Go.Proofs.Ytdlcmbbaicoicaa
open Go.ChangeShapes Go.WideShapes Go.ChangeAt Go.RowKit
open Go.ChangeMaps (open_string shut_string)
open Lex (Tok scT scF scA S mvT ahd)

set_option maxHeartbeats 4000000 in
set_option maxRecDepth 100000 in
theorem lexicBlanks_walk (s : ByteArray) (w : World) (hs : s.size ≤ 9223372036854775807) : Calls Try.prog 8 #[.string s] w fun e w' => e = .returned (.bool true) ∧ Gr w w' := by
  have H3 : Hid (∀ w', Calls Try.prog 12 #[] w' fun e w2 => e = .returned (.bool true) ∧ Gr w' w2) := awake_any
  by_cases hb : (1983 : Int) < (s.size : Int)
  · go_enter Try.func8, Try.ntmps8
    go_wp2_with fail
    refine (H3.out _).mono ?_
    rintro e w4 ⟨rfl, hg4⟩
    go_wp2
    go_ret
    exact ⟨rfl, hg4⟩
  obtain ⟨L, rfl⟩ : ∃ L : List UInt8, s = ⟨L.toArray⟩ := ⟨s.data.toList, (Lex.bytes_list s).symm⟩
  have hL : L.length ≤ 1983 := by have : (⟨L.toArray⟩ : ByteArray).size = L.length := by simp [ByteArray.size]
                                  omega
  obtain ⟨m1, m2, m3, m4, m5, m6⟩ := Lex.moved_scan L hL
  have hadd : ∀ W : World, (Op.stringOp .add ⟨#[32, 35, 32, 97, 32, 114, 101, 109, 97, 114, 107, 32, 255, 32, 123, 10, 9]⟩ ⟨L.toArray⟩).run Try.prog W = .ok (.string ⟨(ahd ++ L).toArray⟩) W := fun W => add_lists ahd L (by show 17 + L.length ≤ _; omega) W
  have H1 : Hid (∀ w', Calls Try.prog 9 #[.string ⟨L.toArray⟩] w' fun e w2 => ∃ ad cap, e = .returned (.tuple #[.slice ad (scT L).length cap, .agg #[.int .i64 (scF L), .int .i64 (scA L)]]) ∧ (scT L).length ≤ cap ∧ ToksAt w2 ad (scT L) ∧ Gr w' w2) := by
    intro w'
    refine (Scan_any ⟨L.toArray⟩ w').mono ?_
    rintro e w2 ⟨ad, cap, h1, h2, h3, _, h4⟩
    exact ⟨ad, cap, h1, h2, h3, h4⟩
  have H2 : Hid (∀ w', Calls Try.prog 9 #[.string ⟨(ahd ++ L).toArray⟩] w' fun e w2 => ∃ ad cap, e = .returned (.tuple #[.slice ad (scT L).length cap, .agg #[.int .i64 (scF L), .int .i64 (scA (ahd ++ L))]]) ∧ (scT L).length ≤ cap ∧ ToksAt w2 ad ((scT L).map (mvT 17)) ∧ Gr w' w2) := by
    intro w'
    refine (Scan_any ⟨(ahd ++ L).toArray⟩ w').mono ?_
    rintro e w2 ⟨ad, cap, h1, h2, h3, _, h4⟩
    rw [show (⟨(ahd ++ L).toArray⟩ : ByteArray).data.toList = ahd ++ L from rfl, m1, m2] at h1
    rw [show (⟨(ahd ++ L).toArray⟩ : ByteArray).data.toList = ahd ++ L from rfl, m1] at h2 h3
    rw [List.length_map] at h1 h2
    exact ⟨ad, cap, h1, h2, h3, h4⟩
  have M6 : Hid (∀ x ∈ scT L, 0 ≤ x.p ∧ x.p ≤ 2000) := m6
  have hTl := Lex.scT_len L
  clear m1 m2 m6
  have m3' := m3
  have m4' := m4
  have m5' := m5
  clear m3 m4 m5
  generalize (⟨(ahd ++ L).toArray⟩ : ByteArray) = AL at *
  generalize scA (ahd ++ L) = RB at *
  generalize scT L = T at *
  generalize scF L = RF at *
  generalize scA L = RA at *
  rcases m3' with rfl | ⟨rfl, rfl⟩
  · obtain ⟨rfl, rfl⟩ := m5' rfl
    clear m4' m5'
    go_enter Try.func8, Try.ntmps8
    go_wp2_with fail
    refine (H1.out _).mono ?_
    rintro e w1 ⟨ad1, cap1, rfl, _, hT1, hg1⟩
    go_wp2_with fail
    refine (H2.out _).mono ?_
    rintro e w2 ⟨ad2, cap2, rfl, _, hT2, hg2⟩
    have hg12 : Gr w1 w2 := (Gr.refl _).alloc.trans hg2
    obtain ⟨p0, p1, _, _, pl⟩ := (FaAt.new w1 0 0 25 _ rfl).gr hg2
    have HG2 : Hid (Gr w w2) := hg1.trans hg12
    have HT1 : Hid (ToksAt w2 ad1 T) := hT1.gr hg12
    have HT2 : Hid (ToksAt w2 ad2 (T.map (mvT 17))) := hT2
    clear hT1 hT2 hg1 hg2 hg12
    go_wp2
    go_loopw [7] (fun i wr => ∃ k : Nat, k ≤ T.length ∧ i = .int .i64 (k : Int) ∧ Gr w2 wr) (fun i _ => T.length - (intOf i).toNat)
    case atStart => exact ⟨0, by omega, rfl, (Gr.refl _).alloc⟩
    case round =>
      obtain ⟨k, hk, rfl, hg⟩ := hrel
      have HG : Hid (Gr w2 wr) := hg
      clear hg
      by_cases hlt : k < T.length
      · obtain ⟨b, off, rfl, hb1, x0, x1, x2⟩ := (HT1.out.gr HG.out) k hlt
        obtain ⟨b', off', rfl, hb2, y0, y1, y2⟩ := (HT2.out.gr HG.out) k (by simpa using hlt)
        simp only [List.getElem_map, mvT] at y0 y1 y2
        obtain ⟨q0, q1⟩ := M6.out _ (List.getElem_mem hlt)
        have hw : IntKind.i64.wrap (T[k].p + 17) = T[k].p + ((17 : Nat) : Int) := by rw [IntKind.wrap_i64]; omega
        go_wp2
        go_quiet (fail)
        go_wp2
        go_roundw
        case rel => exact ⟨k + 1, by omega, by go_num, HG.out.trans ((Gr.refl _).drewN _)⟩
        case measure => simp [intOf]; omega
      · obtain rfl : k = T.length := by omega
        go_wp2_with fail
        refine (H3.out _).mono ?_
        rintro e w4 ⟨rfl, hg4⟩
        go_wp2
        go_ret
        exact ⟨rfl, (HG2.out.trans HG.out).trans hg4⟩
  · obtain ⟨rfl, n0, n1⟩ := m4' rfl
    clear m4' m5'
    have hw : wrap64 (RA + 17) = RA + 17 := by unfold wrap64; omega
    go_enter Try.func8, Try.ntmps8
    go_wp2_with fail
    refine (H1.out _).mono ?_
    rintro e w1 ⟨ad1, cap1, rfl, _, hT1, hg1⟩
    go_wp2_with fail
    refine (H2.out _).mono ?_
    rintro e w2 ⟨ad2, cap2, rfl, _, hT2, hg2⟩
    obtain ⟨p0, p1, _, _, pl⟩ := (FaAt.new w1 80 RA 25 _ rfl).gr hg2
    have HG2 : Hid (Gr w w2) := hg1.trans ((Gr.refl _).alloc.trans hg2)
    clear hT1 hT2 hg1 hg2
    go_wp2
    go_loop [7] (fun i => i = .int .i64 0) (fun _ => 0)
    case atStart => rfl
    case round =>
      subst hrel
      go_wp2_with fail
      refine (H3.out _).mono ?_
      rintro e w4 ⟨rfl, hg4⟩
      go_wp2
      go_ret
      exact ⟨rfl, (HG2.out.alloc).trans hg4⟩

set_option maxRecDepth 100000 in
theorem lexicBlanks_lifted (os : Os) (started : os.Started) (H : Type) (enc : TypeId × Value → H) :
    ReturnsInHanded {} Try.checked os 8 .any (Rows.lexicBlanksSpec.pre6 enc Try.prog Try.f8 Rows.lexicBlanksRow.domain false) (Rows.lexicBlanksSpec.post enc Try.prog Try.f8 false true false false) := by
  refine returnsInHanded_of_change (C := Try.checked) own2 started (by kernel_rfl) Try.func8
    (ChangeSpec.witness6 (enc := enc) (C := Try.checked) false ⟨#[], #[.string ⟨#[]⟩], []⟩ 8 (by kernel_rfl) (by kernel_rfl) (by kernel_rfl) (by kernel_rfl)) ?_
  intro W base args ds gs before hval0 hW hcnd _
  have hval : ∀ (j : Nat) t v, Try.f8.params[j]? = some t → args[j]? = some v → Value.okWide Try.prog W .any base t v := hval0
  have hW' := hW
  obtain ⟨p, q, hA0, hV, rfl, hfz, hnd⟩ := hW
  have hA : DataW.TrodAll enc Try.prog W 0 (fun _ => true) true Try.f8.params.toList args.toList ds p := hA0
  rw [Try.params8] at hA hval
  obtain ⟨v0, d0, rfl, rfl, q0⟩ := trodAll_one hA
  obtain ⟨rfl, rfl⟩ := trodVars_none hV
  obtain ⟨a0, rfl, rfl, rfl, wa0⟩ := open_string Try.underlying9 (hval 0 9 v0 rfl rfl) q0
  clear hA0 hval0
  refine (lexicBlanks_walk a0 W (len_max wa0)).mono fun e W' ⟨he, hg⟩ => ?_
  subst he
  exact ⟨_, rfl, _, _, _, [], _, [], hW', trodAll_mk1 (shut_bool Try.underlying4 _), trodAll_mk1 (shut_string Try.underlying9 wa0), rfl, hg.below.frame _, fun h => by cases h⟩

theorem lexicBlanks_holds : Rows.LexicBlanksSaid :=
  OpenClaim.holds_of_wide 8 Try.f8 rfl rfl rfl rfl rfl rfl rfl ⟨rfl, rfl, rfl, rfl, rfl⟩ rfl rfl rfl rfl rfl (by kernel_rfl) Try.func8 (by kernel_rfl)
    (of_decide_eq_true (by kernel_rfl)) (by unfold Func.isWrapper; first | (rw [if_pos (by decide +kernel)]; kernel_rfl) | (rw [if_neg (by decide +kernel)]; exact ⟨rfl, rfl⟩))
    (fun os started H enc _ => lexicBlanks_lifted os started H enc)
end Go.Proofs.Ytdlcmbbaicoicaa
