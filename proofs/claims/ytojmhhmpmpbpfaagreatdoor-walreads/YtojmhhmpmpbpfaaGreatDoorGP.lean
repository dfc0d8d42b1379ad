/- Parts of these proofs, laid together. -/
import Derived.Test.YtojmhhmpmpbpfaaGreatDoorGO
import Derived.Test.YtojmhhmpmpbpfaaGreatDoorGB
import Derived.Deep.CutBlock
import Derived.Test.YtojmhhmpmpbpfaaGreatDoorGE
import Derived.Test.YtojmhhmpmpbpfaaGreatDoorGF
import Derived.Test.YtojmhhmpmpbpfaaGreatDoorGH
import Derived.Test.YtojmhhmpmpbpfaaGreatDoorGD
import Derived.Lib.Strings
import Derived.Deep.QuietTactic
import Derived.BigQuiet
namespace Go.Proofs.YtojmhhmpmpbpfaaGreatDoor
open Go.RowKit Go.Maps
open Dk (Fl Fo St Ok Up zf emp used cutF fallA kf)
variable {X : Nat → Prop} {w w' : World} {r : Nat} {fa : Option Addr} {fc : Nat} {ka : Option Addr} {kc : Nat} {s : St}

theorem fall_take (K : Nat → Int) (L : List Fl) (k : Nat) (h : k < L.length) : fallA K 0 (L.take (k + 1)) = fallA K 0 (L.take k) ++ Dk.one (K k) L[k] := by
  rw [List.take_succ_eq_append_getElem h, Dk.fall_snoc, List.length_take, Nat.min_eq_left (by omega), Nat.zero_add]
theorem kf_in {l : List Int} {k : Nat} (h : k < l.length) : kf l k = l[k] := by
  unfold kf
  rw [List.getD_eq_getElem?_getD, List.getElem?_eq_getElem h]
  rfl
theorem kf_out {l : List Int} {k : Nat} (h : ¬ k < l.length) : kf l k = 0 := by
  unfold kf
  rw [List.getD_eq_getElem?_getD, List.getElem?_eq_none (by omega)]
  rfl
theorem RAt.fallen (h : RAt X w r fa fc ka kc s) (g : Gr w w') {l : List Int} {fa' : Option Addr} {fc' : Nat} (hl : RowAt flf w' fa' (fallA (kf l) 0 s.L)) (hb : ∀ p, fa' = some p → w.heap.size ≤ p.block) (h0 : (fallA (kf l) 0 s.L).length ≤ fc') (h1 : fc' ≤ 9223372036854775807) :
    Rf X (((w'.setCell ⟨r, 4, none⟩ (.slice fa' (fallA (kf l) 0 s.L).length fc')).setCell ⟨r, 1, none⟩ (.bool true)).setCell ⟨r, 2, none⟩ (.int .i64 0)) r (Dk.fall s l) ∧ Tr w (((w'.setCell ⟨r, 4, none⟩ (.slice fa' (fallA (kf l) 0 s.L).length fc')).setCell ⟨r, 1, none⟩ (.bool true)).setCell ⟨r, 2, none⟩ (.int .i64 0)) r := by
  have hk := h.ok.fall l
  have h2 := (h.gr g).setFiles (L := fallA (kf l) 0 s.L) hl (fun p e => ⟨by have := hb p e; have := h.lt; omega, fun hx => by have := hb p e; have := h.xl _ hx; omega⟩) h0 h1 ⟨hk.up, hk.fo, hk.len, hk.fits, hk.r1, h.ok.l0, h.ok.l1⟩
  have h3 := (h2.setGone true).setLeft 0 hk
  exact ⟨⟨_, _, _, _, h3⟩, ((Tr.gr g).trans (Tr.set _ _ _ _)).trans ((Tr.set _ _ _ _).trans (Tr.set _ _ _ _))⟩
set_option maxHeartbeats 8000000 in
set_option maxRecDepth 100000 in
theorem rfall_any (h : RAt X w r fa fc ka kc s) {ad : Option Addr} {cap : Nat} {l : List Int} (hl : KAt w ad cap l) :
    Calls Tryz.prog 68 #[ptr r, .slice ad l.length cap] w fun e w' => e = .returned (.tuple #[]) ∧ Rf X w' r (Dk.fall s l) ∧ Tr w w' r := by
  have HR := Lib.hid h
  have HK := Lib.hid hl.row
  have HO := Lib.hid h.ok
  have hl8 := h.ok.len
  have hrl := h.lt
  clear h hl
  obtain ⟨i0, hi0, hz0, hz1, hz2⟩ := info_parts infoF
  go_enter Tryz.func68, Tryz.ntmps68
  go_wp2
  go_loopw [5, 4] (fun i v wr => ∃ k : Nat, k ≤ s.L.length ∧ i = .int .i64 (k : Int) ∧ wr.ownsRow w.heap.size 24 3 v (fallA (kf l) 0 (s.L.take k)).length ((fallA (kf l) 0 (s.L.take k)).flatMap flf) ∧ Gr w wr) (fun i _ _ => s.L.length - (intOf i).toNat)
  case atStart => exact ⟨0, Nat.zero_le _, rfl, own_none _ _, Gr.refl w⟩
  case round =>
    rename_i v
    obtain ⟨k, hk, rfl, hown, hg⟩ := hrel
    have HG := Lib.hid hg
    have HOw := Lib.hid hown
    have hfl := hg.keep HR.out.fl
    clear hown
    by_cases hlt : k < s.L.length
    · obtain ⟨x, off, hade, hxb, c0, c1, c2⟩ := fl_at HR.out.row k hlt
      have c0 := hg.keep c0
      have c1 := hg.keep c1
      have c2 := hg.keep c2
      have HFo := Lib.hid (HO.out.fo s.L[k] (List.getElem_mem hlt))
      have hy0 := HFo.out.y0
      have hy1 := HFo.out.y1
      have hsz : s.L[k].d.size ≤ 200000 := by
        have h1 := Dk.used_del HO.out.up (Dk.has_of (List.getElem_mem hlt))
        rw [Dk.get_of HO.out.up (List.getElem_mem hlt)] at h1
        have := HO.out.fits; have := HO.out.r1; omega
      have HT := Lib.hid (fall_take (kf l) s.L k hlt)
      have hML : (fallA (kf l) 0 (s.L.take k)).length ≤ 8 := by have := Dk.fall_len (kf l) 0 (s.L.take k); rw [List.length_take] at this; omega
      have HC : Hid (cutF (kf l k) s.L[k] = ⟨s.L[k].n, s.L[k].d.extract 0 (s.L[k].y + min (max (kf l k) 0) ((s.L[k].d.size : Int) - s.L[k].y)).toNat, s.L[k].y + min (max (kf l k) 0) ((s.L[k].d.size : Int) - s.L[k].y)⟩) := rfl
      have HOn : Hid (Dk.one (kf l k) s.L[k] = if (cutF (kf l k) s.L[k]).y = 0 then [] else [cutF (kf l k) s.L[k]]) := rfl
      rw [HC.out] at HOn
      subst hade
      clear hg HFo
      generalize hM : fallA (kf l) 0 (s.L.take k) = M at *
      obtain ⟨va, vc, rfl⟩ := own_slice HOw.out
      generalize s.L[k] = f at *
      obtain ⟨fn, fd, fy⟩ := f
      simp only at *
      obtain ⟨lim, hlim⟩ : ∃ z : Nat, min (max (kf l k) 0) ((fd.size : Int) - fy) = (z : Int) := ⟨(min (max (kf l k) 0) ((fd.size : Int) - fy)).toNat, by omega⟩
      rw [hlim] at HOn
      obtain ⟨y, rfl⟩ : ∃ y : Nat, fy = (y : Int) := ⟨fy.toNat, by omega⟩
      have HKr := Lib.hid (HK.out.gr HG.out)
      go_upto_block 2 with fail
      go_cut [7, 8] from 27 to 49 (fun a c wx => a = .int .i64 ((y + lim : Nat) : Int) ∧ wx = wr.alloc (.cells #[.int .i64 fn, .string fd, .int .i64 (y : Int)] 24))
      case first =>
        go_wp2_with fail
        go_loopw [8, 7] (fun i c wx => ∃ j : Nat, j ≤ lim ∧ i = .int .i64 (j : Int) ∧ c = .int .i64 ((y + j : Nat) : Int) ∧ wx = wr.alloc (.cells #[.int .i64 fn, .string fd, .int .i64 (y : Int)] 24)) (fun i _ _ => lim - (intOf i).toNat)
        case atStart => exact ⟨0, Nat.zero_le _, rfl, rfl, rfl⟩
        case round =>
          obtain ⟨j, hj, rfl, rfl, rfl⟩ := hrel
          by_cases hkl : k < l.length
          · have hkk := kf_in hkl
            obtain ⟨kb, ko, hka, hkb, hkc⟩ := HKr.out k hkl
            have hkc := (Gr.refl wr).alloc.keep (w1 := wr.alloc (.cells #[.int .i64 fn, .string fd, .int .i64 (y : Int)] 24)) hkc
            rw [← hkk] at hkc
            subst hka
            have d1 : decide ((k : Int) < (l.length : Int)) = true := decide_eq_true (by omega)
            clear hkk
            generalize kf l k = kv at *
            by_cases hjl : j < lim
            · have d2 : decide ((j : Int) < kv) = true := decide_eq_true (by omega)
              have d3 : decide (((y + j : Nat) : Int) < (fd.size : Int)) = true := decide_eq_true (by omega)
              go_wp2
              go_roundw
              case rel => exact ⟨j + 1, by omega, by simp, by simp; omega, by trivial⟩
              case measure => simp [intOf]; omega
            · obtain rfl : j = lim := by omega
              by_cases h2 : (j : Int) < kv
              · have d2 : decide ((j : Int) < kv) = true := decide_eq_true h2
                have d3 : decide (((y + j : Nat) : Int) < (fd.size : Int)) = false := decide_eq_false (by omega)
                go_wp2
                go_meet
                exact ⟨rfl, rfl⟩
              · have d2 : decide ((j : Int) < kv) = false := decide_eq_false h2
                go_wp2
                go_meet
                exact ⟨rfl, rfl⟩
          · have hk0 := kf_out hkl
            rw [hk0] at hlim
            obtain rfl : j = lim := by omega
            have d1 : decide ((k : Int) < (l.length : Int)) = false := decide_eq_false (by omega)
            go_wp2
            go_meet
            exact ⟨rfl, rfl⟩
      case rest =>
        obtain ⟨wz, rfl⟩ : ∃ x, x = wc := ⟨_, rfl⟩
        obtain ⟨rfl, rfl⟩ := hcut
        by_cases hz : y + lim = 0
        · have HE : Hid (fallA (kf l) 0 (s.L.take (k + 1)) = M) := by
            show _ = _
            rw [HT.out, HOn.out, if_pos (by omega), List.append_nil]
          have hzi : ((y + lim : Nat) : Int) = 0 := by omega
          go_wp2
          go_roundw
          case rel => exact ⟨k + 1, by omega, by simp, by rw [HE.out]; exact row_gr HOw.out (Gr.refl _).alloc, HG.out.alloc⟩
          case measure => simp [intOf]; omega
        · have HE : Hid (fallA (kf l) 0 (s.L.take (k + 1)) = M ++ [⟨fn, fd.extract 0 (y + lim), ((y + lim : Nat) : Int)⟩]) := by
            show _ = _
            rw [HT.out, HOn.out, if_neg (by omega)]
            congr 3
          have dz : decide ((0 : Int) < ((y + lim : Nat) : Int)) = true := decide_eq_true (by omega)
          have hle : y + lim ≤ fd.size := by omega
          clear HC HOn HT hlim
          generalize y + lim = q at *
          have BX := BoxAt.new wr (.int .i64 fn) (.string fd) (.int .i64 (y : Int)) 24 _ rfl
          have hws : (wr.alloc (.cells #[.int .i64 fn, .string fd, .int .i64 (y : Int)] 24)).heap.size = wr.heap.size + 1 := by simp
          have HS1 : Hid (((wr.alloc (.cells #[.int .i64 fn, .string fd, .int .i64 (y : Int)] 24)).drew).cell? ⟨wr.heap.size, 0, none⟩ = some (.int .i64 fn) ∧ ((wr.alloc (.cells #[.int .i64 fn, .string fd, .int .i64 (y : Int)] 24)).drew).cell? ⟨wr.heap.size, 1, none⟩ = some (.string fd)) := ⟨(BX.gr (Gr.refl _).drew).c0, (BX.gr (Gr.refl _).drew).c1⟩
          have HS2 : Hid (((wr.alloc (.cells #[.int .i64 fn, .string fd, .int .i64 (y : Int)] 24)).alloc (.cells #[.int .i64 fn, .string (fd.extract 0 q), .int .i64 (q : Int)] 24)).drew.cell? ⟨wr.heap.size, 0, none⟩ = some (.int .i64 fn) ∧ ((wr.alloc (.cells #[.int .i64 fn, .string fd, .int .i64 (y : Int)] 24)).alloc (.cells #[.int .i64 fn, .string (fd.extract 0 q), .int .i64 (q : Int)] 24)).drew.cell? ⟨wr.heap.size, 1, none⟩ = some (.string fd)) := ⟨(BX.gr (Gr.refl _).alloc.drew).c0, (BX.gr (Gr.refl _).alloc.drew).c1⟩
          have HO3 := Lib.hid (row_gr HOw.out (((Gr.refl wr).alloc (o := .cells #[.int .i64 fn, .string fd, .int .i64 (y : Int)] 24)).alloc (o := .cells #[.int .i64 fn, .string (fd.extract 0 q), .int .i64 (q : Int)] 24)).drew)
          have HNw := fl_new (wr.alloc (.cells #[.int .i64 fn, .string fd, .int .i64 (y : Int)] 24)) ⟨fn, fd.extract 0 q, (q : Int)⟩
          rw [hws] at HNw
          have HNw : Hid (∀ j u, ([(⟨fn, fd.extract 0 q, (q : Int)⟩ : Fl)].flatMap flf)[j]? = some u → ((wr.alloc (.cells #[.int .i64 fn, .string fd, .int .i64 (y : Int)] 24)).alloc (.cells #[.int .i64 fn, .string (fd.extract 0 q), .int .i64 (q : Int)] 24)).drew.cell? ((⟨wr.heap.size + 1, 0, none⟩ : Addr).add j) = some u) := HNw
          have hbs := HG.out.size
          have HNe : Hid (∀ j, (Value.slice va M.length vc).ownBlock = some j → j ≠ wr.heap.size) := fun j hj => by have := (HOw.out.lt j hj).2; omega
          have HG3 : Hid (Gr w ((wr.alloc (.cells #[.int .i64 fn, .string fd, .int .i64 (y : Int)] 24)).alloc (.cells #[.int .i64 fn, .string (fd.extract 0 q), .int .i64 (q : Int)] 24)).drew) := HG.out.alloc.alloc.drew
          have hsz2 : ((wr.alloc (.cells #[.int .i64 fn, .string fd, .int .i64 (y : Int)] 24)).alloc (.cells #[.int .i64 fn, .string (fd.extract 0 q), .int .i64 (q : Int)] 24)).drew.heap.size = wr.heap.size + 1 + 1 := by simp
          clear BX
          go_upto_region 11 with fail
          refine wp_region_held_drew (S := (fun w' => w'.cell? ⟨wr.heap.size, 0, none⟩ = some (.int .i64 fn) ∧ w'.cell? ⟨wr.heap.size, 1, none⟩ = some (.string fd))) (by kernel_rfl) (by first | with_reducible exact hHeld | with_reducible exact HS1.out | with_reducible exact HS2.out | with_reducible exact HS6.out) (fun hHeld => ?_)
          refine take_yes 0 52 (v := ?_) rfl rfl (by kernel_rfl) (by kernel_rfl) (by kernel_rfl) (fun _ _ _ h => h) (by rfl) ?_ hHeld ?_
          rotate_left
          · (intro w hSw; (try dsimp only at hSw); go_simp; try with_reducible rfl)
          simp only [Act.put, List.setIfInBounds_toArray, List.set_cons_zero, List.set_cons_succ]
          refine take_yes 1 53 (v := ?_) rfl rfl (by kernel_rfl) (by kernel_rfl) (by kernel_rfl) (fun _ _ _ h => h) (by rfl) ?_ hHeld ?_
          rotate_left
          · (intro w hSw; (try dsimp only at hSw); go_simp; try with_reducible rfl)
          simp only [Act.put, List.setIfInBounds_toArray, List.set_cons_zero, List.set_cons_succ]
          refine take_yes 2 54 (v := ?_) rfl rfl (by kernel_rfl) (by kernel_rfl) (by kernel_rfl) (fun _ _ _ h => h) (by rfl) ?_ hHeld ?_
          rotate_left
          · (intro w hSw; (try dsimp only at hSw); go_simp; try with_reducible rfl)
          simp only [Act.put, List.setIfInBounds_toArray, List.set_cons_zero, List.set_cons_succ]
          refine take_yes 3 55 (v := ?_) rfl rfl (by kernel_rfl) (by kernel_rfl) (by kernel_rfl) (fun _ _ _ h => h) (by rfl) ?_ hHeld ?_
          rotate_left
          · (intro w hSw; (try dsimp only at hSw); go_simp; try with_reducible rfl)
          simp only [Act.put, List.setIfInBounds_toArray, List.set_cons_zero, List.set_cons_succ]
          refine take_yes 4 56 (v := ?_) rfl rfl (by kernel_rfl) (by kernel_rfl) (by kernel_rfl) (fun _ _ _ h => h) (by rfl) ?_ hHeld ?_
          rotate_left
          · (intro w hSw; (try dsimp only at hSw); go_simp; try with_reducible rfl)
          simp only [Act.put, List.setIfInBounds_toArray, List.set_cons_zero, List.set_cons_succ]
          refine take_yes 5 57 (v := ?_) rfl rfl (by kernel_rfl) (by kernel_rfl) (by kernel_rfl) (fun _ _ _ h => h) (by rfl) ?_ hHeld ?_
          rotate_left
          · (intro w hSw; (try dsimp only at hSw); go_simp; try with_reducible rfl)
          simp only [Act.put, List.setIfInBounds_toArray, List.set_cons_zero, List.set_cons_succ]
          refine take_yes 6 58 (v := ?_) rfl rfl (by kernel_rfl) (by kernel_rfl) (by kernel_rfl) (fun _ _ _ h => h) (by rfl) ?_ hHeld ?_
          rotate_left
          · (intro w hSw; (try dsimp only at hSw); go_simp; try with_reducible rfl)
          simp only [Act.put, List.setIfInBounds_toArray, List.set_cons_zero, List.set_cons_succ]
          refine take_yes 7 59 (v := ?_) rfl rfl (by kernel_rfl) (by kernel_rfl) (by kernel_rfl) (fun _ _ _ h => h) (by rfl) ?_ hHeld ?_
          rotate_left
          · (intro w hSw; (try dsimp only at hSw); go_simp; try with_reducible rfl)
          simp only [Act.put, List.setIfInBounds_toArray, List.set_cons_zero, List.set_cons_succ]
          refine take_yes 8 60 (v := ?_) rfl rfl (by kernel_rfl) (by kernel_rfl) (by kernel_rfl) (fun _ _ _ h => h) (by rfl) ?_ hHeld ?_
          rotate_left
          · (intro w hSw; (try dsimp only at hSw); go_simp; try with_reducible rfl)
          simp only [Act.put, List.setIfInBounds_toArray, List.set_cons_zero, List.set_cons_succ]
          refine wpAnyH_ready (rs := [9]) (by kernel_rfl) (by simp) (AllReadyH.cons rfl (fun K hK => ?_) AllReadyH.nil)
          go_simp
          refine hK.out _ _ (by first | with_reducible exact hHeld | with_reducible exact HS1.out | with_reducible exact HS2.out | with_reducible exact HS6.out) (fun hHeldN => ?_)
          clear hHeld hK K
          have hHeld := hHeldN
          clear hHeldN
          refine wpAnyH_ready (rs := [10]) (by kernel_rfl) (by simp) (AllReadyH.cons rfl (fun K hK => ?_) AllReadyH.nil)
          (refine step_append_own (by rfl) _ _ 22 (by rfl) w.heap.size 24 i0 (.agg #[.int .i64 0, .string ⟨#[]⟩, .int .i64 0]) 3 32 Tryz.underlying22 hi0 hz0 hz1 hz2 rfl (by decide) _ _ _ (by rfl) HO3.out ⟨wr.heap.size + 1, 0, none⟩ 1 1 ([(⟨fn, fd.extract 0 q, (q : Int)⟩ : Fl)].flatMap flf) (by rfl) (by rfl) HNw.out (flf_one _) (by unfold maxLen; omega) (by omega) (by omega) ?_; intro v6 w6 ho6 hgr6 hn6; have HS6 : Hid (w6.cell? ⟨wr.heap.size, 0, none⟩ = some (.int .i64 fn) ∧ w6.cell? ⟨wr.heap.size, 1, none⟩ = some (.string fd)) := ⟨hgr6.cell HS2.out.1 (fun e => HNe.out _ e.symm rfl), hgr6.cell HS2.out.2 (fun e => HNe.out _ e.symm rfl)⟩)
          refine hK.out (Act.put _ (some 62) v6) _ (by first | with_reducible exact hHeld | with_reducible exact HS1.out | with_reducible exact HS2.out | with_reducible exact HS6.out) (fun hHeldN => ?_)
          clear hHeld hK K
          have hHeld := hHeldN
          clear hHeldN
          simp only [Act.put, List.setIfInBounds_toArray, List.set_cons_zero, List.set_cons_succ]
          refine take_yes 11 4 (v := ?_) rfl rfl (by kernel_rfl) (by kernel_rfl) (by kernel_rfl) (fun _ _ _ h => h) (by rfl) ?_ hHeld ?_
          rotate_left
          · (intro w hSw; (try dsimp only at hSw); go_simp; try with_reducible rfl)
          simp only [Act.put, List.setIfInBounds_toArray, List.set_cons_zero, List.set_cons_succ]
          refine wpAnyH_done (by kernel_rfl) ?_ _
          have HGF := Lib.hid (own_gr HO3.out HG3.out hgr6 (Nat.le_refl _))
          have HOF := Lib.hid ho6
          clear hHeld ho6 hgr6 hn6 HS6
          go_wp2
          go_roundw
          case rel => exact ⟨k + 1, by omega, by simp, by (rw [HE.out, fl_snoc, List.length_append]; exact HOF.out), HGF.out⟩
          case measure => simp [intOf]; omega
    · obtain rfl : k = s.L.length := by omega
      rw [List.take_length] at HOw
      obtain ⟨va, vc, rfl, hc1, hc2, hrow, hb, _⟩ := own_row HOw.out
      have HF := Lib.hid (HR.out.fallen (l := l) hg hrow hb hc1 hc2)
      have h1 := hg.keep HR.out.gn
      have h2 := hg.keep HR.out.lf
      have f1 := hg.keepF hrl (HR.out.fz 1 (by omega))
      have f2 := hg.keepF hrl (HR.out.fz 2 (by omega))
      have f4 := hg.keepF hrl (HR.out.fz 4 (by omega))
      clear hg hrow hb
      go_wp2
      go_end0
      exact ⟨rfl, HF.out⟩
end Go.Proofs.YtojmhhmpmpbpfaaGreatDoor
namespace Go.Proofs.YtojmhhmpmpbpfaaGreatDoor
open Go.RowKit

set_option maxHeartbeats 1000000 in
set_option maxRecDepth 100000 in
theorem refSeal_any (v : Int) (b : ByteArray) (w : World) (hs : b.size ≤ 9223372036854775807) :
    Calls Tryz.prog 64 #[.int .i64 v, .string b] w fun e w' => e = .returned (.tuple #[.string ⟨(Sl.sealE v b.data.toList).1.toArray⟩, .int .i64 (Sl.sealE v b.data.toList).2]) ∧ Gr w w' := by
  have hsz : b.data.toList.length = b.size := by simp
  by_cases hv : 0 ≤ v ∧ v ≤ 255
  · have hv0 : decide (v < 0) = false := decide_eq_false (by omega)
    have hv1 : decide (255 < v) = false := decide_eq_false (by omega)
    by_cases hb : b.size ≤ 30000
    · have HE : Hid (Sl.sealE v b.data.toList = (Sl.front v.toNat b.data.toList ++ Sl.eight (Sl.sum (Sl.front v.toNat b.data.toList)), 0)) := by
        show _ = _
        rw [Sl.sealE, if_pos hv, if_pos (by omega)]; rfl
      obtain ⟨x, hx⟩ : ∃ x : Nat, v = (x : Int) := ⟨v.toNat, by omega⟩
      subst hx
      have hx : x < 256 := by omega
      have hfl := Sl.front_len x b.data.toList
      have hnl := Pk.num_len b.data.toList.length
      have htl : (Pk.text b.data.toList).length = (Pk.num b.data.toList.length).length + b.data.toList.length := by unfold Pk.text; exact List.length_append
      have HX : Hid (∀ w : World, Calls Tryz.prog 85 #[.string b] w fun e w' => e = .returned (.string ⟨(Pk.text b.data.toList).toArray⟩) ∧ Gr w w') := fun w => refText_any b w (by omega)
      have HS : Hid (∀ (w' : World), Calls Tryz.prog 87 #[.string ⟨(Sl.front x b.data.toList).toArray⟩] w' fun e w2 => e = .returned (.int .u64 (Sl.sum (Sl.front x b.data.toList) : Nat)) ∧ w2 = w') := by
        intro w'
        have := refSum_any ⟨(Sl.front x b.data.toList).toArray⟩ w' (by simp [ByteArray.size]; omega)
        simpa using this
      have hsl := Sl.sum_lt (Sl.front x b.data.toList)
      have HL : Hid (∀ w : World, Calls Tryz.prog 86 #[.int .u64 (Sl.sum (Sl.front x b.data.toList) : Nat)] w fun e w' => e = .returned (.string ⟨(Sl.eight (Sl.sum (Sl.front x b.data.toList))).toArray⟩) ∧ Gr w w') := fun w => eight_any _ w hsl
      have hel := Sl.eight_len (Sl.sum (Sl.front x b.data.toList))
      have ha1 := add_lists [231, UInt8.ofNat x] (Pk.text b.data.toList) (by simp only [List.length_cons, List.length_nil]; omega)
      have ha2 := add_lists (Sl.front x b.data.toList) (Sl.eight (Sl.sum (Sl.front x b.data.toList))) (by omega)
      have hfd : [231, UInt8.ofNat x] ++ Pk.text b.data.toList = Sl.front x b.data.toList := rfl
      rw [hfd] at ha1
      have hcv := fun w k => conv2 w k x hx
      have hw8 := w8 (x : Int) (by omega) (by omega)
      have htn : ((x : Nat) : Int).toNat = x := by omega
      rw [htn] at HE
      generalize Sl.sum (Sl.front x b.data.toList) = sm at *
      generalize Sl.eight sm = e8 at *
      generalize Sl.front x b.data.toList = fr at *
      generalize Pk.text b.data.toList = tx at *
      clear hfd htn hel hnl hfl hsz htl
      go_enter Tryz.func64, Tryz.ntmps64
      go_wp2_with fail
      go_region_with (go_at_call 85; refine (HX.out _).mono ?_; rintro e w1 ⟨rfl, hb1⟩; obtain ⟨hc1, hf1⟩ := hb1.cells)
      all_goals go_wp2_with fail
      all_goals refine (HS.out _).mono ?_
      all_goals rintro e w3 ⟨rfl, rfl⟩
      all_goals go_wp2_with fail
      all_goals refine (HL.out _).mono ?_
      all_goals rintro e w4 ⟨rfl, hg4⟩
      all_goals go_wp2
      all_goals go_ret2
      all_goals exact ⟨by rw [HE.out]; rfl, (by repeat (first | exact Gr.refl _ | refine Gr.alloc ?_ | refine Gr.drew ?_ | refine Gr.trans ?_ (by assumption)))⟩
    · have HE : Hid (Sl.sealE v b.data.toList = ([], 3)) := by
        show _ = _
        rw [Sl.sealE, if_pos hv, if_neg (by omega)]
      clear hsz
      go_enter Tryz.func64, Tryz.ntmps64
      go_wp2
      go_ret2
      rw [HE.out]
      exact ⟨rfl, Gr.refl _⟩
  · have HE : Hid (Sl.sealE v b.data.toList = ([], 2)) := by
      show _ = _
      rw [Sl.sealE, if_neg hv]
    clear hsz
    by_cases h0 : v < 0
    · go_enter Tryz.func64, Tryz.ntmps64
      go_wp2
      go_ret2
      rw [HE.out]
      exact ⟨rfl, Gr.refl _⟩
    · have hv0 : decide (v < 0) = false := decide_eq_false (by omega)
      have h1 : 255 < v := by omega
      go_enter Tryz.func64, Tryz.ntmps64
      go_wp2
      go_ret2
      rw [HE.out]
      exact ⟨rfl, Gr.refl _⟩
end Go.Proofs.YtojmhhmpmpbpfaaGreatDoor
namespace Go.Proofs.YtojmhhmpmpbpfaaGreatDoor
open Go.RowKit

theorem ext_drop (s : ByteArray) (a : Nat) : (s.extract a s.size).data.toList = s.data.toList.drop a := by
  have hl : s.data.toList.length = s.size := by simp
  simp only [ByteArray.data_extract, Array.toList_extract, List.extract_eq_take_drop]
  rw [List.take_of_length_le (by simp)]

set_option maxHeartbeats 1000000 in
set_option maxRecDepth 100000 in
theorem checkHead_any (s : ByteArray) (p v : Int) (w : World) :
    Calls Tryz.prog 99 #[.string s, .int .i64 p, .int .i64 v] w fun e w' => e = .returned (.int .i64 (Sl.headE s.data.toList p v : Nat)) ∧ w' = w := by
  have hsz : s.data.toList.length = s.size := by simp
  have HV : Hid (∀ w : World, Calls Tryz.prog 92 #[.int .i64 v] w fun e w' => e = .returned (.bool (decide (0 ≤ v ∧ v ≤ 255))) ∧ w' = w) := fun w => isVersion_any v w
  by_cases h0 : 0 ≤ p
  · have h0' : decide (p < 0) = false := decide_eq_false (by omega)
    by_cases h1 : p ≤ s.size
    · have h1' : decide ((s.size : Int) < p) = false := decide_eq_false (by omega)
      by_cases h2 : 0 ≤ v ∧ v ≤ 255
      · rw [decide_eq_true h2] at HV
        obtain ⟨a, rfl⟩ := Int.eq_ofNat_of_zero_le h0
        have ha : a ≤ s.size := by omega
        have HE : Hid (Sl.headE s.data.toList a v = match s.data.toList.drop a with | [] => 10 | c :: r => if c = 231 then (match r with | [] => 10 | d :: _ => if d.toNat = v.toNat then 0 else 21) else 20) := by
          show _ = _
          rw [Sl.headE, if_pos ⟨h0, by omega, h2.1, h2.2⟩]; rfl
        have hx := ext_drop s a
        rw [← hx] at HE
        obtain ⟨L, hL⟩ : ∃ L, s.extract a s.size = L := ⟨_, rfl⟩
        have hLs : L.size = s.size - a := by rw [← hL]; simp
        have hLl : L.data.toList.length = L.size := by simp
        rw [hL] at HE hx
        clear hx
        cases hd : L.data.toList with
        | nil =>
          rw [hd] at hLl HE
          have hz : L.size = 0 := by simpa using hLl.symm
          go_enter Tryz.func99, Tryz.ntmps99
          go_wp2_with fail
          refine (HV.out _).mono ?_
          rintro e w1 ⟨rfl, rfl⟩
          go_wp2
          go_ret
          rw [HE.out]
          exact ⟨rfl, rfl⟩
        | cons c r => 
          rw [hd] at hLl HE
          have hpos : 0 < L.size := by rw [← hLl]; simp
          have hc0 : L[0] = c := by
            show L.data[0] = c
            have : L.data.toList[0]'(by rw [hd]; simp) = c := by simp [hd]
            simpa using this
          by_cases hc : c = 231
          · subst hc
            have hcb : (((231 : UInt8).toNat : Int) != 231) = false := by decide
            cases r with
            | nil =>
              have hz : L.size = 1 := by simpa using hLl.symm
              have HR : Hid (Sl.headE s.data.toList a v = 10) := by show _ = _; rw [HE.out]; rfl
              go_enter Tryz.func99, Tryz.ntmps99
              go_wp2_with fail
              refine (HV.out _).mono ?_
              rintro e w1 ⟨rfl, rfl⟩
              go_wp2
              go_ret
              rw [HR.out]
              exact ⟨rfl, rfl⟩
            | cons d r =>
              have hz : 2 ≤ L.size := by rw [← hLl]; simp
              have hz1 : 1 < L.size := by omega
              have hd1 : L[1] = d := by
                show L.data[1] = d
                have : L.data.toList[1]'(by rw [hd]; simp) = d := by simp [hd]
                simpa using this
              have hd8 : d.toNat < 256 := d.toNat_lt
              by_cases hv : (d.toNat : Int) = v
              · have HR : Hid (Sl.headE s.data.toList a v = 0) := by show _ = _; rw [HE.out]; simp; omega
                have hvb : ((d.toNat : Int) != v) = false := by rw [hv]; exact bne_self_eq_false v
                go_enter Tryz.func99, Tryz.ntmps99
                go_wp2_with fail
                refine (HV.out _).mono ?_
                rintro e w1 ⟨rfl, rfl⟩
                go_wp2
                go_ret
                rw [HR.out]
                exact ⟨rfl, rfl⟩
              · have HR : Hid (Sl.headE s.data.toList a v = 21) := by show _ = _; rw [HE.out]; simp; omega
                have hvb : ((d.toNat : Int) != v) = true := by rw [bne_iff_ne]; exact hv
                go_enter Tryz.func99, Tryz.ntmps99
                go_wp2_with fail
                refine (HV.out _).mono ?_
                rintro e w1 ⟨rfl, rfl⟩
                go_wp2
                go_ret
                rw [HR.out]
                exact ⟨rfl, rfl⟩
          · have HR : Hid (Sl.headE s.data.toList a v = 20) := by show _ = _; rw [HE.out]; simp [hc]
            have hcb : ((c.toNat : Int) != 231) = true := by
              rw [bne_iff_ne]; intro h; apply hc
              exact UInt8.toNat_inj.1 (by have : c.toNat = 231 := by omega
                                          rw [this]; rfl)
            go_enter Tryz.func99, Tryz.ntmps99
            go_wp2_with fail
            refine (HV.out _).mono ?_
            rintro e w1 ⟨rfl, rfl⟩
            go_wp2
            go_ret
            rw [HR.out]
            exact ⟨rfl, rfl⟩
      · have HE : Hid (Sl.headE s.data.toList p v = 2) := by
          show _ = _
          rw [Sl.headE, if_neg (by intro h; exact h2 h.2.2)]
        rw [decide_eq_false h2] at HV
        go_enter Tryz.func99, Tryz.ntmps99
        go_wp2_with fail
        refine (HV.out _).mono ?_
        rintro e w1 ⟨rfl, rfl⟩
        go_wp2
        go_ret
        rw [HE.out]
        exact ⟨rfl, rfl⟩
    · have HE : Hid (Sl.headE s.data.toList p v = 2) := by
        show _ = _
        rw [Sl.headE, if_neg (by intro h; exact h1 (by omega))]
      go_enter Tryz.func99, Tryz.ntmps99
      go_wp2
      go_ret
      rw [HE.out]
      exact ⟨rfl, rfl⟩
  · have HE : Hid (Sl.headE s.data.toList p v = 2) := by
      show _ = _
      rw [Sl.headE, if_neg (by intro h; exact h0 (by omega))]
    go_enter Tryz.func99, Tryz.ntmps99
    go_wp2
    go_ret
    rw [HE.out]
    exact ⟨rfl, rfl⟩
end Go.Proofs.YtojmhhmpmpbpfaaGreatDoor
