
/- disk: Image. -/
import Derived.Test.YtpnlebegenkdkaaDkL
import Derived.Test.YtpnlebegenkdkaaDkR
namespace Go.Proofs.Ytpnlebegenkdkaa
open Go.RowKit Go.Maps
open Dk (Fl Fo St Ok Up zf emp used cutF fallA kf)
variable {w w' : World} {b m : Nat} {A : Nat → Int} {s : St}

def ImR (w w' : World) (L : List Fl) (e : Ending) : Prop := ∃ ad cap, e = .returned (.slice ad L.length cap) ∧ RowAt flf w' ad L ∧ (∀ a, ad = some a → w.heap.size ≤ a.block) ∧ Gr w w'
set_option maxHeartbeats 8000000 in
set_option maxRecDepth 100000 in
theorem image_any (h : DAt w b m A s) : Calls Try.prog 28 #[ptr b] w fun e w' => ImR w w' s.L e := by
  have HF := Lib.hid (files_any h)
  have HD := Lib.hid h
  have HO := Lib.hid h.ok
  have hl8 := h.ok.len
  clear h
  obtain ⟨i0, hi0, hz0, hz1, hz2⟩ := info_parts infoF
  go_enter Try.func28, Try.ntmps28
  go_wp2_with fail
  refine HF.out.mono ?_
  rintro e w1 ⟨v, rfl, hrow, hnil, hg1⟩
  rw [nms_flat] at hrow
  obtain ⟨ad, cap, rfl, hcap, hcm, hR, hbase, _⟩ := own_row hrow
  have HG1 := Lib.hid hg1
  have HRw := Lib.hid hR
  have HD1 := Lib.hid (HD.out.gr hg1)
  clear hrow hnil hg1 hR hbase HF HD
  go_wp2
  go_loopw [9, 3] (fun i v wr => ∃ (k : Nat), k ≤ s.L.length ∧ i = .int .i64 (k : Int) ∧ wr.ownsRow w1.heap.size 40 3 v k ((s.L.take k).flatMap flf) ∧ Gr w1 wr) (fun i _ _ => s.L.length - (intOf i).toNat)
  case atStart => exact ⟨0, Nat.zero_le _, rfl, own_none _ _, Gr.refl _⟩
  case round =>
    rename_i v
    obtain ⟨k, hk, rfl, hown, hg⟩ := hrel
    have HG := Lib.hid hg
    have HOw := Lib.hid hown
    clear hown hg
    by_cases hlt : k < s.L.length
    · have hfo := HO.out.fo s.L[k] (List.getElem_mem hlt)
      have hn0 := hfo.n0
      have hn1 := hfo.n1
      have hsz : s.L[k].d.size ≤ 200000 := by
        have h1 := Dk.used_del HO.out.up (Dk.has_of (List.getElem_mem hlt))
        rw [Dk.get_of HO.out.up (List.getElem_mem hlt)] at h1
        have := HO.out.fits; have := HO.out.r1; omega
      have hd := HD1.out.gr HG.out
      have hlook := (hd.fl.look (k := s.L[k].n) (by omega) (by omega)).2
      rw [Dk.get_of HO.out.up (List.getElem_mem hlt)] at hlook
      have hmp := hd.mp
      obtain ⟨x, off, hade, hxb, hxc⟩ := num_at HRw.out k hlt
      have hnum := HG.out.keep hxc
      have HCl : Hid (∀ w', Calls Try.prog 41 #[flV s.L[k]] w' fun e w2 => e = .returned (flV s.L[k]) ∧ Gr w' w2) := fun w' => own_any _ w' (by omega)
      have HT : Hid ((s.L.take (k + 1)).flatMap flf = (s.L.take k).flatMap flf ++ flf s.L[k]) := by show _ = _; rw [List.take_succ_eq_append_getElem hlt, fl_snoc]; simp
      subst hade
      clear hd hfo hxc
      generalize s.L[k] = f at *
      obtain ⟨fn, fd, fy⟩ := f
      obtain ⟨va, vc, rfl⟩ := own_slice HOw.out
      simp only at *
      go_wp2_with fail
      refine (HCl.out _).mono ?_
      rintro e w2 ⟨rfl, hg2⟩
      have HG2 := Lib.hid (HG.out.trans hg2)
      have HOw2 := Lib.hid (row_gr HOw.out (hg2.alloc (o := .cells #[.int .i64 fn, .string fd, .int .i64 fy] 40)))
      have HNw := Lib.hid (fl_new w2 ⟨fn, fd, fy⟩)
      have hsz1 := HG2.out.size
      clear hlook hmp hnum hg2
      go_wp2_with (first
        | (at_builtin; refine wpList_append_own _ rfl _ _ 38 rfl w1.heap.size 40 i0 (.agg #[.int .i64 0, .string ⟨#[]⟩, .int .i64 0]) 3 32 Try.underlying38 hi0 hz0 hz1 hz2 rfl (by decide) _ _ _ rfl HOw2.out ⟨w2.heap.size, 0, none⟩ 1 1 ([(⟨fn, fd, fy⟩ : Fl)].flatMap flf) rfl rfl HNw.out (flf_one _) (by unfold maxLen; omega) (by omega) (by simp; omega) ?_)
        | fail)
      intro v' w3 hown' hgrow _
      rw [← HT.out] at hown'
      have HGF := Lib.hid (own_gr HOw2.out HG2.out.alloc hgrow (Nat.le_refl _))
      have HOF := Lib.hid hown'
      clear hown' hgrow
      go_wp2
      go_roundw
      case rel => exact ⟨k + 1, by omega, by simp, HOF.out, HGF.out⟩
      case measure => simp [intOf]; omega
    · obtain rfl : k = s.L.length := by omega
      have hown := HOw.out
      rw [List.take_length] at hown
      obtain ⟨va, vc, rfl, _, _, hrow, hb, _⟩ := own_row hown
      have HR : Hid (ImR w wr s.L (.returned (.slice va s.L.length vc))) := ⟨va, vc, rfl, hrow, fun a e => Nat.le_trans HG1.out.size (hb a e), HG1.out.trans HG.out⟩
      clear hown hrow hb
      go_wp2
      go_ret
      exact HR.out
end Go.Proofs.Ytpnlebegenkdkaa
