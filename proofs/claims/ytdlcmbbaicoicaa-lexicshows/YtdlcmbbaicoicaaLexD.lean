/- lexic: Show. -/
import Derived.Test.YtdlcmbbaicoicaaLexC
import Derived.Lib.AppendStr
namespace Go.Proofs.Ytdlcmbbaicoicaa
open Go.RowKit
open Lex (Tok ckE okT endT szs jz jf jx)

def shT (T : List Tok) : ByteArray := if ckE T = 0 then jx T.dropLast else ⟨#[]⟩

theorem ck_zero {I : List Tok} {x : Tok} (h : ckE (I ++ [x]) = 0) : I.all okT = true ∧ jz I ≤ 2000 := by
  rw [Lex.ck_snoc] at h
  split at h
  · split at h
    · rename_i h1
      split at h
      · cases h
      · exact ⟨h1, by omega⟩
    · cases h
  · cases h
theorem jf_ne {I : List Tok} (h : I.all okT = true) (hi : I ≠ []) : jf I ≠ [] := by
  cases I with
  | nil => exact absurd rfl hi
  | cons x t =>
    rw [List.all_cons, Bool.and_eq_true] at h
    have := (Lex.may_size h.1).1
    intro e
    have hl : (jf (x :: t)).length = 0 := by rw [e]; rfl
    have hs : x.t.data.toList.length = x.t.size := by simp
    rw [Lex.jf, List.length_append] at hl
    omega

set_option maxHeartbeats 8000000 in
set_option maxRecDepth 100000 in
theorem show_any (T : List Tok) (ad : Option Addr) (cap : Nat) (w : World) (hT : ToksAt w ad T) (hc : T.length ≤ cap) (hn : T.length ≤ 5000) (hz : ∀ x ∈ T, x.t.size ≤ 9223372036854775807) :
    Calls Try.prog 13 #[.slice ad T.length cap] w fun e w' => e = .returned (.tuple #[.string (shT T), .int .i64 (ckE T)]) ∧ Gr w w' := by
  obtain ⟨i0, hi, hz0, hz1, hz2⟩ := info_parts info5
  have HK : Hid (∀ w', Gr w w' → Calls Try.prog 15 #[.slice ad T.length cap] w' fun e w2 => e = .returned (.int .i64 (ckE T)) ∧ Gr w' w2) := fun w' g => check_any T ad cap w' (hT.gr g) hc hn hz
  by_cases h0 : ckE T = 0
  · have hs0 : shT T = jx T.dropLast := by unfold shT; rw [if_pos h0]
    rw [hs0, h0]
    rw [h0] at HK
    rcases List.eq_nil_or_concat T with rfl | ⟨I, x, rfl⟩
    · cases h0
    rw [List.concat_eq_append] at *
    obtain ⟨hall, hjz⟩ := ck_zero h0
    rw [List.dropLast_concat]
    have hlen : (I ++ [x]).length = I.length + 1 := by simp
    rw [hlen] at hc hn HK ⊢
    have HT : Hid (∀ j (h : j < I.length), ∃ b off, ad = some ⟨b, off, none⟩ ∧ b < w.heap.size ∧ w.cell? ⟨b, off + j * 3, none⟩ = some (.int .i64 I[j].k) ∧ w.cell? ⟨b, off + j * 3 + 1, none⟩ = some (.string I[j].t) ∧ w.cell? ⟨b, off + j * 3 + 2, none⟩ = some (.int .i64 I[j].p)) := by
      intro j h
      obtain ⟨b', off', e, h0, h1, h2, h3⟩ := hT j (by rw [hlen]; omega)
      rw [List.getElem_append_left h] at h1 h2 h3
      exact ⟨b', off', e, h0, h1, h2, h3⟩
    have HS : Hid (∀ j (h : j < I.length), I[j].t.size ≤ 16) := fun j h => (Lex.may_size (List.all_eq_true.1 hall _ (List.getElem_mem h))).2
    have HJ : Hid (∀ j, (jf (I.take j)).length ≤ 2000) := fun j => by rw [Lex.jf_len]; have := Lex.jz_le I j; omega
    have HJT : Hid (∀ j (h : j < I.length), jf (I.take (j + 1)) = jf (I.take j) ++ (if j = 0 then [] else [32]) ++ I[j].t.data.toList) := fun j h => Lex.jf_take I j h
    have HNE : Hid (I ≠ [] → jf I ≠ []) := jf_ne hall
    have hw1 : wrap64 ((I.length : Int) + 1 - 1) = (I.length : Int) := by unfold wrap64; omega
    have hsl := slice_low ad (I.length + 1) cap I.length (by omega) hc
    have hcn : ∀ W : World, (convert 50 9 (.slice none 0 0)).run Try.prog W = .ok (.string ⟨#[]⟩) W := fun W => by rfl
    clear hT hz hlen hall hjz h0 hs0
    go_enter Try.func13, Try.ntmps13
    go_wp2_with fail
    refine (HK.out _ (Gr.refl _)).mono ?_
    rintro e w1 ⟨rfl, hg1⟩
    have HG1 : Hid (Gr w w1) := hg1
    clear hg1 HK
    go_wp2
    go_loopw [5, 19] (fun v i' wr => ∃ i : Nat, i ≤ I.length ∧ i' = .int .i64 (i : Int) ∧ wr.ownsRow w.heap.size 5 1 v (jf (I.take i)).length (Lib.byteCells (jf (I.take i))) ∧ (i = 0 → v = .slice none 0 0) ∧ Gr w wr) (fun _ i' _ => I.length - (intOf i').toNat)
    case atStart => exact ⟨0, by omega, rfl, World.ownsRow_nil _ _ _ _, fun _ => rfl, HG1.out⟩
    case round =>
      obtain ⟨i, hii, rfl, hown, hnil, hg⟩ := hrel
      have HG : Hid (Gr w wr) := hg
      have hbd := HJ.out i
      have hwz := hg.size
      clear hg
      by_cases hlt : i < I.length
      · obtain ⟨b, off, rfl, hb, c0, c1, c2⟩ := HT.out i hlt
        replace c0 := HG.out.keep c0
        replace c1 := HG.out.keep c1
        replace c2 := HG.out.keep c2
        have hbw : b < wr.heap.size := Nat.lt_of_lt_of_le hb HG.out.size
        have h16 := HS.out i hlt
        have hjt := HJT.out i hlt
        by_cases hi0 : i = 0
        · have HE : Hid (jf (I.take (i + 1)) = jf (I.take i) ++ I[i].t.data.toList) := by show _ = _; rw [hjt, if_pos hi0, List.append_nil]
          subst hi0
          rw [Nat.zero_mul, Nat.add_zero] at c0 c1 c2
          have HO : Hid (World.ownsRow (wr.alloc (.cells #[.int .i64 I[0].k, .string I[0].t, .int .i64 I[0].p] 39)) w.heap.size 5 1 u5 (jf (I.take 0)).length (Lib.byteCells (jf (I.take 0)))) := hown.alloc _
          have hm1 : (jf (I.take 0)).length + I[0].t.size ≤ maxLen := by unfold maxLen; omega
          clear hown hjt hnil
          generalize jf (I.take 0) = JA at *
          go_wp2_with (first
            | (at_builtin; refine Lib.wpList_append_own_string _ rfl _ _ 50 9 rfl w.heap.size 5 i0 Try.underlying50 Try.underlying9 hi hz0 hz1 hz2 _ _ _ rfl HO.out I[0].t rfl hm1 (by omega) (by simp; omega) ?_)
            | fail)
          intro v' w5 hown5 hgrow _
          have HO5 : Hid (w5.ownsRow w.heap.size 5 1 v' (jf (I.take (0 + 1))).length (Lib.byteCells (jf (I.take (0 + 1))))) := by
            show World.ownsRow _ _ _ _ _ _ _
            rw [HE.out, Lib.byteCells_append, List.length_append]
            have e : I[0].t.data.toList.length = I[0].t.size := by simp
            rw [e]; exact hown5
          have HG5 : Hid (Gr w w5) := Gr.grown HG.out.alloc hgrow (fun g hg => (HO.out.lt g hg).1)
          clear hown5 hgrow HO
          go_wp2
          go_roundw
          case rel => exact ⟨0 + 1, by omega, by go_num, HO5.out, fun h => absurd h (by omega), HG5.out⟩
          case measure => simp [intOf]; omega
        · have HE : Hid (jf (I.take (i + 1)) = jf (I.take i) ++ [32] ++ I[i].t.data.toList) := by show _ = _; rw [hjt, if_neg hi0]
          have hgt : (0 : Int) < (i : Int) := by omega
          have HO : Hid (World.ownsRow ((wr.alloc (.cells #[.int .i64 I[i].k, .string I[i].t, .int .i64 I[i].p] 39)).alloc (.cells #[.int .u8 32] 5)) w.heap.size 5 1 u5 (jf (I.take i)).length (Lib.byteCells (jf (I.take i)))) := (hown.alloc _).alloc _
          have hm1 : (jf (I.take i)).length + 1 ≤ maxLen := by unfold maxLen; omega
          have hm2 : (jf (I.take i)).length + 1 + I[i].t.size ≤ maxLen := by unfold maxLen; omega
          have HX : Hid (BoxAt ((wr.alloc (.cells #[.int .i64 I[i].k, .string I[i].t, .int .i64 I[i].p] 39)).alloc (.cells #[.int .u8 32] 5)) wr.heap.size (.int .i64 I[i].k) (.string I[i].t) (.int .i64 I[i].p)) := (BoxAt.new wr _ _ _ _ _ rfl).gr (Gr.refl _).alloc
          have hnb : some wr.heap.size ≠ u5.ownBlock := fun e => by have := (hown.lt _ e.symm).2; omega
          clear hown hjt hnil
          generalize jf (I.take i) = JA at *
          go_wp2_with (first
            | (at_builtin; refine wpList_append_own _ rfl _ _ 50 rfl w.heap.size 5 i0 (.int .u8 0) 1 1 Try.underlying50 hi hz0 hz1 hz2 rfl (by decide) _ _ _ rfl HO.out ⟨(wr.alloc (.cells #[.int .i64 I[i].k, .string I[i].t, .int .i64 I[i].p] 39)).heap.size, 0, none⟩ 1 1 [.int .u8 32] (by simp; rfl) rfl (cell_one_new _ _ _) (by intro u hu; simp at hu; subst hu; rfl) hm1 (by omega) (by simp; omega) ?_)
            | fail)
          intro v5 w5 hown5 hgrow5 _
          have HG5 : Hid (Gr w w5) := Gr.grown HG.out.alloc.alloc hgrow5 (fun g hg => (HO.out.lt g hg).1)
          have hx5 : w5.cell? ⟨wr.heap.size, 1, none⟩ = some (.string I[i].t) := hgrow5.cell HX.out.c1 hnb
          have hxl : wr.heap.size < w5.heap.size := Nat.lt_of_lt_of_le HX.out.lt hgrow5.size
          have HO5 : Hid (w5.ownsRow w.heap.size 5 1 v5 (JA.length + 1) (Lib.byteCells JA ++ [.int .u8 32])) := hown5
          have hg5 := HG5.out.size
          clear hown5 hgrow5 HO HX
          go_wp2_with (first
            | (at_builtin; refine Lib.wpList_append_own_string _ rfl _ _ 50 9 rfl w.heap.size 5 i0 Try.underlying50 Try.underlying9 hi hz0 hz1 hz2 _ _ _ rfl HO5.out I[i].t rfl hm2 (by omega) hg5 ?_)
            | fail)
          intro v6 w6 hown6 hgrow6 _
          have HO6 : Hid (w6.ownsRow w.heap.size 5 1 v6 (jf (I.take (i + 1))).length (Lib.byteCells (jf (I.take (i + 1))))) := by
            show World.ownsRow _ _ _ _ _ _ _
            rw [HE.out, Lib.byteCells_append, byteCells_snoc, List.length_append, List.length_append]
            have e : I[i].t.data.toList.length = I[i].t.size := by simp
            rw [e, List.append_assoc]; exact hown6
          have HG6 : Hid (Gr w w6) := Gr.grown HG5.out hgrow6 (fun g hg => (HO5.out.lt g hg).1)
          clear hown6 hgrow6 HO5
          go_wp2
          go_roundw
          case rel => exact ⟨i + 1, by omega, by go_num, HO6.out, fun h => absurd h (by omega), HG6.out⟩
          case measure => simp [intOf]; omega
      · obtain rfl : i = I.length := by omega
        rw [List.take_length] at *
        by_cases hI : I = []
        · subst hI
          obtain rfl := hnil rfl
          clear hown
          go_wp2
          go_ret2
          exact ⟨rfl, HG.out⟩
        · have hcv := own_string hown (HNE.out hI)
          clear hown
          go_wp2
          go_ret2
          exact ⟨rfl, HG.out⟩
  · have hs0 : shT T = ⟨#[]⟩ := by unfold shT; rw [if_neg h0]
    rw [hs0]
    have hne : (ckE T != 0) = true := by simpa using h0
    clear h0 hs0 hT hz
    generalize ckE T = CK at *
    go_enter Try.func13, Try.ntmps13
    go_wp2_with fail
    refine (HK.out _ (Gr.refl _)).mono ?_
    rintro e w1 ⟨rfl, hg1⟩
    go_wp2
    go_ret2
    exact ⟨rfl, hg1⟩
end Go.Proofs.Ytdlcmbbaicoicaa
