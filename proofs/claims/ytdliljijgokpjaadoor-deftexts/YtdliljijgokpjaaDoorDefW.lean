/- def: Show. -/
import Derived.Test.YtdliljijgokpjaaDoorDefS
namespace Go.Proofs.YtdliljijgokpjaaDoor
open Go.RowKit
open Df (Stp ownB askB stpB defB chE wk)

def jn (s : Stp) : List UInt8 := Lib.join ((stW s).map (·.data.toList)) [32]
theorem join5 (a b c d e : List UInt8) : Lib.join [a, b, c, d, e] [32] = a ++ 32 :: (b ++ 32 :: (c ++ 32 :: (d ++ 32 :: e))) := by
  simp [Lib.join, List.intercalate]
theorem stW_len (s : Stp) : (stW s).length = 5 := by unfold stW; split <;> rfl
theorem jn_stT (s : Stp) : stT s = [32, 32] ++ jn s ++ [59, 10] := by
  unfold stT jn
  have h := stW_len s
  generalize stW s = xs at *
  match xs, h with
  | [a, b, c, d, e], _ => simp [ln, join5]
def shE (nm : ByteArray) (L : List Stp) : ByteArray := if defB nm L = true then ⟨(shT nm L).toArray⟩ else ⟨#[]⟩
theorem jn_len {s : Stp} (h : stpB s = true) : (jn s).length ≤ 60 := by
  have h1 := stT_len h
  rw [jn_stT] at h1
  simp only [List.length_append, List.length_cons, List.length_nil] at h1
  omega
theorem join_any (s : Stp) (g : Nat) (w : World) (h : stpB s = true) (hg : g < w.heap.size) (hc : StrsIn w g (stW s)) : Calls Tryd.prog 21 #[.slice (some ⟨g, 0, none⟩) 5 5, .string ⟨#[32]⟩] w fun e w' => e = .returned (.string ⟨(jn s).toArray⟩) ∧ Gr w w' := by
  have hl := jn_len h
  have := Tryd.strings_Join g 0 5 (stW s) ⟨#[32]⟩ w hc hg (by rw [stW_len]; omega) (by rw [stW_len]; omega) (by show (jn s).length ≤ _; omega)
  rw [stW_len] at this
  refine this.mono ?_
  rintro e w' ⟨rfl, hb⟩
  exact ⟨rfl, ⟨hb⟩⟩
theorem flat_take (L : List Stp) (k : Nat) (h : k < L.length) : (L.take (k + 1)).flatMap stT = (L.take k).flatMap stT ++ stT L[k] := by
  rw [List.take_succ_eq_append_getElem h, List.flatMap_append]; simp

set_option maxHeartbeats 8000000 in
set_option maxRecDepth 100000 in
theorem dShow_any (nm : ByteArray) (L : List Stp) (ad : Option Addr) (cap : Nat) (w : World) (hL : StpsAt w ad L) (hs : nm.size ≤ 9223372036854775807) (hn : L.length ≤ 9223372036854775807) (hz : ∀ s ∈ L, inS s) (he : Env w) :
    Calls Tryd.prog 10 #[.agg #[.string nm, .slice ad L.length cap]] w fun e w' => e = .returned (.tuple #[.string (shE nm L), .int .i64 (chE nm L)]) ∧ Gr w w' := by
  have HC : Hid (∀ w', Gr w w' → Calls Tryd.prog 12 #[.agg #[.string nm, .slice ad L.length cap]] w' fun e w2 => e = .returned (.int .i64 (chE nm L)) ∧ Gr w' w2) := fun w' g => dCheck_any nm L ad cap w' (hL.gr g) hs hn hz
  have HX0 := Lib.hid (TwoAt.new w (.string nm) (.slice ad L.length cap) 24 _ rfl)
  cases hd : defB nm L with
  | false =>
    have e1 : shE nm L = ⟨#[]⟩ := by unfold shE; rw [hd]; rfl
    have e2 : chE nm L = 90 := Df.ch_no hd
    rw [e1, e2]
    rw [e2] at HC
    clear e1 e2 hd hL hz he
    go_enter Tryd.func10, Tryd.ntmps10
    go_wp2_with fail
    refine (HC.out _ (by repeat (first | exact Gr.refl _ | refine Gr.alloc ?_ | refine Gr.drew ?_ | refine Gr.trans ?_ (by assumption)))).mono ?_
    rintro e w1 ⟨rfl, hg⟩
    go_wp2
    go_ret2
    exact ⟨rfl, (Gr.refl _).alloc.trans hg⟩
  | true =>
    have e1 : shE nm L = ⟨(shT nm L).toArray⟩ := by unfold shE; rw [hd]; rfl
    have e2 : chE nm L = 0 := Df.ch_yes hd
    rw [e1, e2]
    rw [e2] at HC
    have hsl := shT_len hd
    obtain ⟨h1, h2, h8, h4⟩ := (Df.def_iff nm L).1 hd
    have hn16 := name_le h1
    obtain ⟨nl, hnl⟩ : ∃ l : List UInt8, l = nm.data.toList := ⟨_, rfl⟩
    have hnm : nm = ⟨nl.toArray⟩ := by rw [hnl, Lex.bytes_list]
    have hnll : nl.length ≤ 16 := by rw [hnl]; simpa using hn16
    have HT : Hid (shT nm L = [115, 97, 103, 97, 32] ++ nl ++ [32, 123, 10] ++ L.flatMap stT ++ [125, 10]) := by show _ = _; unfold shT shH; rw [hnl]; simp
    have HW : Hid (∀ (j : Nat) (h : j < L.length) (w' : World), Gr w w' → Calls Tryd.prog 22 #[.agg #[.int .i64 L[j].k, .string L[j].a, .int .i64 L[j].n, .int .i64 L[j].o, .string L[j].u, .int .i64 L[j].y, .int .i64 L[j].v]] w' fun e w2 => WdR w' (stW L[j]) e w2) := fun j h w' g => words_any L[j] w' (hz _ (List.getElem_mem h)) (h4 _ (List.getElem_mem h)) (he.gr g)
    have HJ : Hid (∀ (j : Nat) (h : j < L.length) (g : Nat) (w' : World), g < w'.heap.size → StrsIn w' g (stW L[j]) → Calls Tryd.prog 21 #[.slice (some ⟨g, 0, none⟩) 5 5, .string ⟨#[32]⟩] w' fun e w2 => e = .returned (.string ⟨(jn L[j]).toArray⟩) ∧ Gr w' w2) := fun j h g w' hg hc => join_any L[j] g w' (h4 _ (List.getElem_mem h)) hg hc
    have HB : Hid (∀ k, k ≤ L.length → ((L.take k).flatMap stT).length ≤ 480) := by
      intro k hk
      have := stTs_len (L.take k) (fun s hs => h4 s (List.mem_of_mem_take hs))
      rw [List.length_take] at this
      omega
    have HL : Hid (StpsAt w ad L) := hL
    have HP : Hid (∀ s ∈ L, stpB s = true) := h4
    generalize shT nm L = RT at *
    subst hnm
    have a1 := add_lists [115, 97, 103, 97, 32] nl (by simp; omega)
    have a2 := add_lists ([115, 97, 103, 97, 32] ++ nl) [32, 123, 10] (by simp; omega)
    have hH : ([115, 97, 103, 97, 32] ++ nl ++ [32, 123, 10]).length ≤ 24 := by simp; omega
    generalize hHd : [115, 97, 103, 97, 32] ++ nl ++ [32, 123, 10] = HD at *
    generalize [115, 97, 103, 97, 32] ++ nl = t1 at *
    clear hHd hd hL hz he e1 e2 hsl h1 h4 hn16 hnl
    go_enter Tryd.func10, Tryd.ntmps10
    go_wp2_with fail
    refine (HC.out _ (by repeat (first | exact Gr.refl _ | refine Gr.alloc ?_ | refine Gr.drew ?_ | refine Gr.trans ?_ (by assumption)))).mono ?_
    rintro e w1 ⟨rfl, hg⟩
    have HG1 : Hid (Gr w w1) := (Gr.refl _).alloc.trans hg
    obtain ⟨x0, x1, _, _, xl⟩ := HX0.out.gr hg
    clear hg
    go_wp2
    go_loopw [5, 20] (fun sv iv wr => ∃ k : Nat, k ≤ L.length ∧ iv = .int .i64 (k : Int) ∧ sv = .string ⟨(HD ++ (L.take k).flatMap stT).toArray⟩ ∧ Gr w wr) (fun _ iv _ => L.length - (intOf iv).toNat)
    case atStart => exact ⟨0, by omega, rfl, by simp, HG1.out⟩
    case round =>
      obtain ⟨k, hk, rfl, rfl, hg⟩ := hrel
      have HG : Hid (Gr w wr) := hg
      clear hg x0 x1 xl
      have hbk := HB.out k hk
      by_cases hlt : k < L.length
      · obtain ⟨b, off, rfl, hb, x0, x1, x2, x3, x4, x5, x6⟩ := StpsAt.at (HL.out.gr HG.out) k hlt
        have HB0 := Lib.hid (AccAt.new wr (.int .i64 L[k].k) (.string L[k].a) (.int .i64 L[k].n) (.int .i64 L[k].o) (.string L[k].u) (.int .i64 L[k].y) (.int .i64 L[k].v) 47 _ rfl)
        have HWk : Hid (∀ w', Gr w w' → Calls Tryd.prog 22 #[.agg #[.int .i64 L[k].k, .string L[k].a, .int .i64 L[k].n, .int .i64 L[k].o, .string L[k].u, .int .i64 L[k].y, .int .i64 L[k].v]] w' fun e w2 => WdR w' (stW L[k]) e w2) := HW.out k hlt
        have HJk := Lib.hid (HJ.out k hlt)
        have hjl := jn_len (HP.out _ (List.getElem_mem hlt))
        have HFT : Hid ((L.take (k + 1)).flatMap stT = (L.take k).flatMap stT ++ ([32, 32] ++ jn L[k] ++ [59, 10])) := by show _ = _; rw [flat_take L k hlt, jn_stT]
        have a3 := add_lists [32, 32] (jn L[k]) (by simp; omega)
        have a4 := add_lists ([32, 32] ++ jn L[k]) [59, 10] (by simp; omega)
        have a5 := add_lists (HD ++ (L.take k).flatMap stT) ([32, 32] ++ jn L[k] ++ [59, 10]) (by simp only [List.length_append, List.length_cons, List.length_nil] at hH ⊢; omega)
        have HFT2 : Hid (HD ++ (L.take k).flatMap stT ++ ([32, 32] ++ jn L[k] ++ [59, 10]) = HD ++ (L.take (k + 1)).flatMap stT) := by show _ = _; rw [HFT.out, List.append_assoc]
        generalize HD ++ (L.take k).flatMap stT ++ ([32, 32] ++ jn L[k] ++ [59, 10]) = t5 at *
        generalize [32, 32] ++ jn L[k] ++ [59, 10] = t4 at *
        generalize [32, 32] ++ jn L[k] = t3 at *
        generalize HD ++ (L.take k).flatMap stT = t0 at *
        generalize jn L[k] = jk at *
        generalize stW L[k] = sk at *
        generalize L[k].k = y0 at *
        generalize L[k].a = y1 at *
        generalize L[k].n = y2 at *
        generalize L[k].o = y3 at *
        generalize L[k].u = y4 at *
        generalize L[k].y = y5 at *
        generalize L[k].v = y6 at *
        clear a1 a2 hbk hjl
        go_wp2_with fail
        refine (HWk.out _ HG.out.alloc).mono ?_
        rintro e w2 ⟨g, rfl, hgl, hst, hg2⟩
        have HG2 : Hid (Gr w w2) := HG.out.alloc.trans hg2
        have HS2 := Lib.hid hst
        clear hg2 hst x0 x1 x2 x3 x4 x5 x6
        go_wp2_with fail
        refine (HJk.out g _ hgl HS2.out).mono ?_
        rintro e w3 ⟨rfl, hg3⟩
        have HG3 : Hid (Gr w w3) := HG2.out.trans hg3
        clear hg3
        go_wp2
        go_roundw
        case rel => exact ⟨k + 1, by omega, by go_num, by rw [← HFT2.out], HG3.out⟩
        case measure => simp [intOf]; omega
      · obtain rfl : k = L.length := by omega
        rw [List.take_length]
        rw [List.take_length] at hbk
        have a6 := add_lists (HD ++ L.flatMap stT) [125, 10] (by simp only [List.length_append, List.length_cons, List.length_nil] at hH ⊢; omega)
        have HTT : Hid (RT = HD ++ L.flatMap stT ++ [125, 10]) := HT.out
        generalize HD ++ L.flatMap stT ++ [125, 10] = t7 at *
        generalize HD ++ L.flatMap stT = t6 at *
        go_wp2
        go_ret2
        exact ⟨by rw [HTT.out]; rfl, HG.out⟩
end Go.Proofs.YtdliljijgokpjaaDoor
