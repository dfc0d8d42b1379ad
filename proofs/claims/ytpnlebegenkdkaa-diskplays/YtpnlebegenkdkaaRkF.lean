
/- The document's disk: fall, Crash. -/
import Derived.Test.YtpnlebegenkdkaaRkA
import Derived.Test.YtpnlebegenkdkaaRegH
import Derived.Deep.CutBlock
namespace Go.Proofs.Ytpnlebegenkdkaa
open Go.RowKit Go.Maps
open Dk (Fl Fo St Ok Up zf emp used cutF fallA kf)
variable {X : Nat → Prop} {w w' : World} {r : Nat} {fa : Option Addr} {fc : Nat} {ka : Option Addr} {kc : Nat} {s : St}

theorem fall_take (K : Nat → Int) (L : List Fl) (k : Nat) (h : k < L.length) : fallA K 0 (L.take (k + 1)) = fallA K 0 (L.take k) ++ Dk.one (K k) L[k] := by
  rw [List.take_succ_eq_append_getElem h, Dk.fall_snoc, List.length_take, Nat.min_eq_left (by omega), Nat.zero_add]
theorem kf_in {l : List Int} {k : Nat} (h : k < l.length) : kf l k = l[k] := by
  unfold kf
  rw [List.getD_eq_getElem?_getD, List.getElem?_eq_getElem h]
  rfl
theorem kf_out {l : List Int} {k : Nat} (h : ¬ k < l.length) : kf l k = 0 := by
  unfold kf
  rw [List.getD_eq_getElem?_getD, List.getElem?_eq_none (by omega)]
  rfl
theorem RAt.fallen (h : RAt X w r fa fc ka kc s) (g : Gr w w') {l : List Int} {fa' : Option Addr} {fc' : Nat} (hl : RowAt flf w' fa' (fallA (kf l) 0 s.L)) (hb : ∀ p, fa' = some p → w.heap.size ≤ p.block) (h0 : (fallA (kf l) 0 s.L).length ≤ fc') (h1 : fc' ≤ 9223372036854775807) :
    Rf X (((w'.setCell ⟨r, 4, none⟩ (.slice fa' (fallA (kf l) 0 s.L).length fc')).setCell ⟨r, 1, none⟩ (.bool true)).setCell ⟨r, 2, none⟩ (.int .i64 0)) r (Dk.fall s l) ∧ Tr w (((w'.setCell ⟨r, 4, none⟩ (.slice fa' (fallA (kf l) 0 s.L).length fc')).setCell ⟨r, 1, none⟩ (.bool true)).setCell ⟨r, 2, none⟩ (.int .i64 0)) r := by
  have hk := h.ok.fall l
  have h2 := (h.gr g).setFiles (L := fallA (kf l) 0 s.L) hl (fun p e => ⟨by have := hb p e; have := h.lt; omega, fun hx => by have := hb p e; have := h.xl _ hx; omega⟩) h0 h1 ⟨hk.up, hk.fo, hk.len, hk.fits, hk.r1, h.ok.l0, h.ok.l1⟩
  have h3 := (h2.setGone true).setLeft 0 hk
  exact ⟨⟨_, _, _, _, h3⟩, ((Tr.gr g).trans (Tr.set _ _ _ _)).trans ((Tr.set _ _ _ _).trans (Tr.set _ _ _ _))⟩
set_option maxHeartbeats 8000000 in
set_option maxRecDepth 100000 in
theorem rfall_any (h : RAt X w r fa fc ka kc s) {ad : Option Addr} {cap : Nat} {l : List Int} (hl : KAt w ad cap l) :
    Calls Try.prog 56 #[ptr r, .slice ad l.length cap] w fun e w' => e = .returned (.tuple #[]) ∧ Rf X w' r (Dk.fall s l) ∧ Tr w w' r := by
  have HR := Lib.hid h
  have HK := Lib.hid hl.row
  have HO := Lib.hid h.ok
  have hl8 := h.ok.len
  have hrl := h.lt
  clear h hl
  obtain ⟨i0, hi0, hz0, hz1, hz2⟩ := info_parts infoF
  go_enter Try.func56, Try.ntmps56
  go_wp2
  go_loopw [5, 4] (fun i v wr => ∃ k : Nat, k ≤ s.L.length ∧ i = .int .i64 (k : Int) ∧ wr.ownsRow w.heap.size 40 3 v (fallA (kf l) 0 (s.L.take k)).length ((fallA (kf l) 0 (s.L.take k)).flatMap flf) ∧ Gr w wr) (fun i _ _ => s.L.length - (intOf i).toNat)
  case atStart => exact ⟨0, Nat.zero_le _, rfl, own_none _ _, Gr.refl w⟩
  case round =>
    rename_i v
    obtain ⟨k, hk, rfl, hown, hg⟩ := hrel
    have HG := Lib.hid hg
    have HOw := Lib.hid hown
    have hfl := hg.keep HR.out.fl
    clear hown
    by_cases hlt : k < s.L.length
    · obtain ⟨x, off, hade, hxb, c0, c1, c2⟩ := fl_at HR.out.row k hlt
      have c0 := hg.keep c0
      have c1 := hg.keep c1
      have c2 := hg.keep c2
      have HFo := Lib.hid (HO.out.fo s.L[k] (List.getElem_mem hlt))
      have hy0 := HFo.out.y0
      have hy1 := HFo.out.y1
      have hsz : s.L[k].d.size ≤ 200000 := by
        have h1 := Dk.used_del HO.out.up (Dk.has_of (List.getElem_mem hlt))
        rw [Dk.get_of HO.out.up (List.getElem_mem hlt)] at h1
        have := HO.out.fits; have := HO.out.r1; omega
      have HT := Lib.hid (fall_take (kf l) s.L k hlt)
      have hML : (fallA (kf l) 0 (s.L.take k)).length ≤ 8 := by have := Dk.fall_len (kf l) 0 (s.L.take k); rw [List.length_take] at this; omega
      have HC : Hid (cutF (kf l k) s.L[k] = ⟨s.L[k].n, s.L[k].d.extract 0 (s.L[k].y + min (max (kf l k) 0) ((s.L[k].d.size : Int) - s.L[k].y)).toNat, s.L[k].y + min (max (kf l k) 0) ((s.L[k].d.size : Int) - s.L[k].y)⟩) := rfl
      have HOn : Hid (Dk.one (kf l k) s.L[k] = if (cutF (kf l k) s.L[k]).y = 0 then [] else [cutF (kf l k) s.L[k]]) := rfl
      rw [HC.out] at HOn
      subst hade
      clear hg HFo
      generalize hM : fallA (kf l) 0 (s.L.take k) = M at *
      obtain ⟨va, vc, rfl⟩ := own_slice HOw.out
      generalize s.L[k] = f at *
      obtain ⟨fn, fd, fy⟩ := f
      simp only at *
      obtain ⟨lim, hlim⟩ : ∃ z : Nat, min (max (kf l k) 0) ((fd.size : Int) - fy) = (z : Int) := ⟨(min (max (kf l k) 0) ((fd.size : Int) - fy)).toNat, by omega⟩
      rw [hlim] at HOn
      obtain ⟨y, rfl⟩ : ∃ y : Nat, fy = (y : Int) := ⟨fy.toNat, by omega⟩
      have HKr := Lib.hid (HK.out.gr HG.out)
      go_upto_block 2 with fail
      go_cut [7, 8] from 27 to 49 (fun a c wx => a = .int .i64 ((y + lim : Nat) : Int) ∧ wx = wr.alloc (.cells #[.int .i64 fn, .string fd, .int .i64 (y : Int)] 40))
      case first =>
        go_wp2_with fail
        go_loopw [8, 7] (fun i c wx => ∃ j : Nat, j ≤ lim ∧ i = .int .i64 (j : Int) ∧ c = .int .i64 ((y + j : Nat) : Int) ∧ wx = wr.alloc (.cells #[.int .i64 fn, .string fd, .int .i64 (y : Int)] 40)) (fun i _ _ => lim - (intOf i).toNat)
        case atStart => exact ⟨0, Nat.zero_le _, rfl, rfl, rfl⟩
        case round =>
          obtain ⟨j, hj, rfl, rfl, rfl⟩ := hrel
          by_cases hkl : k < l.length
          · have hkk := kf_in hkl
            obtain ⟨kb, ko, hka, hkb, hkc⟩ := HKr.out k hkl
            have hkc := (Gr.refl wr).alloc.keep (w1 := wr.alloc (.cells #[.int .i64 fn, .string fd, .int .i64 (y : Int)] 40)) hkc
            rw [← hkk] at hkc
            subst hka
            have d1 : decide ((k : Int) < (l.length : Int)) = true := decide_eq_true (by omega)
            clear hkk
            generalize kf l k = kv at *
            by_cases hjl : j < lim
            · have d2 : decide ((j : Int) < kv) = true := decide_eq_true (by omega)
              have d3 : decide (((y + j : Nat) : Int) < (fd.size : Int)) = true := decide_eq_true (by omega)
              go_wp2
              go_roundw
              case rel => exact ⟨j + 1, by omega, by simp, by simp; omega, by trivial⟩
              case measure => simp [intOf]; omega
            · obtain rfl : j = lim := by omega
              by_cases h2 : (j : Int) < kv
              · have d2 : decide ((j : Int) < kv) = true := decide_eq_true h2
                have d3 : decide (((y + j : Nat) : Int) < (fd.size : Int)) = false := decide_eq_false (by omega)
                go_wp2
                go_meet
                exact ⟨rfl, rfl⟩
              · have d2 : decide ((j : Int) < kv) = false := decide_eq_false h2
                go_wp2
                go_meet
                exact ⟨rfl, rfl⟩
          · have hk0 := kf_out hkl
            rw [hk0] at hlim
            obtain rfl : j = lim := by omega
            have d1 : decide ((k : Int) < (l.length : Int)) = false := decide_eq_false (by omega)
            go_wp2
            go_meet
            exact ⟨rfl, rfl⟩
      case rest =>
        obtain ⟨wz, rfl⟩ : ∃ x, x = wc := ⟨_, rfl⟩
        obtain ⟨rfl, rfl⟩ := hcut
        by_cases hz : y + lim = 0
        · have HE : Hid (fallA (kf l) 0 (s.L.take (k + 1)) = M) := by
            show _ = _
            rw [HT.out, HOn.out, if_pos (by omega), List.append_nil]
          have hzi : ((y + lim : Nat) : Int) = 0 := by omega
          go_wp2
          go_roundw
          case rel => exact ⟨k + 1, by omega, by simp, by rw [HE.out]; exact row_gr HOw.out (Gr.refl _).alloc, HG.out.alloc⟩
          case measure => simp [intOf]; omega
        · have HE : Hid (fallA (kf l) 0 (s.L.take (k + 1)) = M ++ [⟨fn, fd.extract 0 (y + lim), ((y + lim : Nat) : Int)⟩]) := by
            show _ = _
            rw [HT.out, HOn.out, if_neg (by omega)]
            congr 3
          have dz : decide ((0 : Int) < ((y + lim : Nat) : Int)) = true := decide_eq_true (by omega)
          have hle : y + lim ≤ fd.size := by omega
          clear HC HOn HT hlim
          generalize y + lim = q at *
          have BX := BoxAt.new wr (.int .i64 fn) (.string fd) (.int .i64 (y : Int)) 40 _ rfl
          have hws : (wr.alloc (.cells #[.int .i64 fn, .string fd, .int .i64 (y : Int)] 40)).heap.size = wr.heap.size + 1 := by simp
          have HS1 : Hid (((wr.alloc (.cells #[.int .i64 fn, .string fd, .int .i64 (y : Int)] 40)).drew).cell? ⟨wr.heap.size, 0, none⟩ = some (.int .i64 fn) ∧ ((wr.alloc (.cells #[.int .i64 fn, .string fd, .int .i64 (y : Int)] 40)).drew).cell? ⟨wr.heap.size, 1, none⟩ = some (.string fd)) := ⟨(BX.gr (Gr.refl _).drew).c0, (BX.gr (Gr.refl _).drew).c1⟩
          have HS2 : Hid (((wr.alloc (.cells #[.int .i64 fn, .string fd, .int .i64 (y : Int)] 40)).alloc (.cells #[.int .i64 fn, .string (fd.extract 0 q), .int .i64 (q : Int)] 40)).drew.cell? ⟨wr.heap.size, 0, none⟩ = some (.int .i64 fn) ∧ ((wr.alloc (.cells #[.int .i64 fn, .string fd, .int .i64 (y : Int)] 40)).alloc (.cells #[.int .i64 fn, .string (fd.extract 0 q), .int .i64 (q : Int)] 40)).drew.cell? ⟨wr.heap.size, 1, none⟩ = some (.string fd)) := ⟨(BX.gr (Gr.refl _).alloc.drew).c0, (BX.gr (Gr.refl _).alloc.drew).c1⟩
          have HO3 := Lib.hid (row_gr HOw.out (((Gr.refl wr).alloc (o := .cells #[.int .i64 fn, .string fd, .int .i64 (y : Int)] 40)).alloc (o := .cells #[.int .i64 fn, .string (fd.extract 0 q), .int .i64 (q : Int)] 40)).drew)
          have HNw := fl_new (wr.alloc (.cells #[.int .i64 fn, .string fd, .int .i64 (y : Int)] 40)) ⟨fn, fd.extract 0 q, (q : Int)⟩
          rw [hws] at HNw
          have HNw : Hid (∀ j u, ([(⟨fn, fd.extract 0 q, (q : Int)⟩ : Fl)].flatMap flf)[j]? = some u → ((wr.alloc (.cells #[.int .i64 fn, .string fd, .int .i64 (y : Int)] 40)).alloc (.cells #[.int .i64 fn, .string (fd.extract 0 q), .int .i64 (q : Int)] 40)).drew.cell? ((⟨wr.heap.size + 1, 0, none⟩ : Addr).add j) = some u) := HNw
          have hbs := HG.out.size
          have HNe : Hid (∀ j, (Value.slice va M.length vc).ownBlock = some j → j ≠ wr.heap.size) := fun j hj => by have := (HOw.out.lt j hj).2; omega
          have HG3 : Hid (Gr w ((wr.alloc (.cells #[.int .i64 fn, .string fd, .int .i64 (y : Int)] 40)).alloc (.cells #[.int .i64 fn, .string (fd.extract 0 q), .int .i64 (q : Int)] 40)).drew) := HG.out.alloc.alloc.drew
          have hsz2 : ((wr.alloc (.cells #[.int .i64 fn, .string fd, .int .i64 (y : Int)] 40)).alloc (.cells #[.int .i64 fn, .string (fd.extract 0 q), .int .i64 (q : Int)] 40)).drew.heap.size = wr.heap.size + 1 + 1 := by simp
          clear BX
          go_upto_region 11 with fail
          refine wp_region_held_drew (S := (fun w' => w'.cell? ⟨wr.heap.size, 0, none⟩ = some (.int .i64 fn) ∧ w'.cell? ⟨wr.heap.size, 1, none⟩ = some (.string fd))) (by kernel_rfl) (by first | with_reducible exact hHeld | with_reducible exact HS1.out | with_reducible exact HS2.out | with_reducible exact HS6.out) (fun hHeld => ?_)
          refine take_yes 0 52 (v := ?_) rfl rfl (by kernel_rfl) (by kernel_rfl) (by kernel_rfl) (fun _ _ _ h => h) (by rfl) ?_ hHeld ?_
          rotate_left
          · (intro w hSw; (try dsimp only at hSw); go_simp; try with_reducible rfl)
          simp only [Act.put, List.setIfInBounds_toArray, List.set_cons_zero, List.set_cons_succ]
          refine take_yes 1 53 (v := ?_) rfl rfl (by kernel_rfl) (by kernel_rfl) (by kernel_rfl) (fun _ _ _ h => h) (by rfl) ?_ hHeld ?_
          rotate_left
          · (intro w hSw; (try dsimp only at hSw); go_simp; try with_reducible rfl)
          simp only [Act.put, List.setIfInBounds_toArray, List.set_cons_zero, List.set_cons_succ]
          refine take_yes 2 54 (v := ?_) rfl rfl (by kernel_rfl) (by kernel_rfl) (by kernel_rfl) (fun _ _ _ h => h) (by rfl) ?_ hHeld ?_
          rotate_left
          · (intro w hSw; (try dsimp only at hSw); go_simp; try with_reducible rfl)
          simp only [Act.put, List.setIfInBounds_toArray, List.set_cons_zero, List.set_cons_succ]
          refine take_yes 3 55 (v := ?_) rfl rfl (by kernel_rfl) (by kernel_rfl) (by kernel_rfl) (fun _ _ _ h => h) (by rfl) ?_ hHeld ?_
          rotate_left
          · (intro w hSw; (try dsimp only at hSw); go_simp; try with_reducible rfl)
          simp only [Act.put, List.setIfInBounds_toArray, List.set_cons_zero, List.set_cons_succ]
          refine take_yes 4 56 (v := ?_) rfl rfl (by kernel_rfl) (by kernel_rfl) (by kernel_rfl) (fun _ _ _ h => h) (by rfl) ?_ hHeld ?_
          rotate_left
          · (intro w hSw; (try dsimp only at hSw); go_simp; try with_reducible rfl)
          simp only [Act.put, List.setIfInBounds_toArray, List.set_cons_zero, List.set_cons_succ]
          refine take_yes 5 57 (v := ?_) rfl rfl (by kernel_rfl) (by kernel_rfl) (by kernel_rfl) (fun _ _ _ h => h) (by rfl) ?_ hHeld ?_
          rotate_left
          · (intro w hSw; (try dsimp only at hSw); go_simp; try with_reducible rfl)
          simp only [Act.put, List.setIfInBounds_toArray, List.set_cons_zero, List.set_cons_succ]
          refine take_yes 6 58 (v := ?_) rfl rfl (by kernel_rfl) (by kernel_rfl) (by kernel_rfl) (fun _ _ _ h => h) (by rfl) ?_ hHeld ?_
          rotate_left
          · (intro w hSw; (try dsimp only at hSw); go_simp; try with_reducible rfl)
          simp only [Act.put, List.setIfInBounds_toArray, List.set_cons_zero, List.set_cons_succ]
          refine take_yes 7 59 (v := ?_) rfl rfl (by kernel_rfl) (by kernel_rfl) (by kernel_rfl) (fun _ _ _ h => h) (by rfl) ?_ hHeld ?_
          rotate_left
          · (intro w hSw; (try dsimp only at hSw); go_simp; try with_reducible rfl)
          simp only [Act.put, List.setIfInBounds_toArray, List.set_cons_zero, List.set_cons_succ]
          refine take_yes 8 60 (v := ?_) rfl rfl (by kernel_rfl) (by kernel_rfl) (by kernel_rfl) (fun _ _ _ h => h) (by rfl) ?_ hHeld ?_
          rotate_left
          · (intro w hSw; (try dsimp only at hSw); go_simp; try with_reducible rfl)
          simp only [Act.put, List.setIfInBounds_toArray, List.set_cons_zero, List.set_cons_succ]
          refine wpAnyH_ready (rs := [9]) (by kernel_rfl) (by simp) (AllReadyH.cons rfl (fun K hK => ?_) AllReadyH.nil)
          go_simp
          refine hK.out _ _ (by first | with_reducible exact hHeld | with_reducible exact HS1.out | with_reducible exact HS2.out | with_reducible exact HS6.out) (fun hHeldN => ?_)
          clear hHeld hK K
          have hHeld := hHeldN
          clear hHeldN
          refine wpAnyH_ready (rs := [10]) (by kernel_rfl) (by simp) (AllReadyH.cons rfl (fun K hK => ?_) AllReadyH.nil)
          (refine step_append_own (by rfl) _ _ 38 (by rfl) w.heap.size 40 i0 (.agg #[.int .i64 0, .string ⟨#[]⟩, .int .i64 0]) 3 32 Try.underlying38 hi0 hz0 hz1 hz2 rfl (by decide) _ _ _ (by rfl) HO3.out ⟨wr.heap.size + 1, 0, none⟩ 1 1 ([(⟨fn, fd.extract 0 q, (q : Int)⟩ : Fl)].flatMap flf) (by rfl) (by rfl) HNw.out (flf_one _) (by unfold maxLen; omega) (by omega) (by omega) ?_; intro v6 w6 ho6 hgr6 hn6; have HS6 : Hid (w6.cell? ⟨wr.heap.size, 0, none⟩ = some (.int .i64 fn) ∧ w6.cell? ⟨wr.heap.size, 1, none⟩ = some (.string fd)) := ⟨hgr6.cell HS2.out.1 (fun e => HNe.out _ e.symm rfl), hgr6.cell HS2.out.2 (fun e => HNe.out _ e.symm rfl)⟩)
          refine hK.out (Act.put _ (some 62) v6) _ (by first | with_reducible exact hHeld | with_reducible exact HS1.out | with_reducible exact HS2.out | with_reducible exact HS6.out) (fun hHeldN => ?_)
          clear hHeld hK K
          have hHeld := hHeldN
          clear hHeldN
          simp only [Act.put, List.setIfInBounds_toArray, List.set_cons_zero, List.set_cons_succ]
          refine take_yes 11 4 (v := ?_) rfl rfl (by kernel_rfl) (by kernel_rfl) (by kernel_rfl) (fun _ _ _ h => h) (by rfl) ?_ hHeld ?_
          rotate_left
          · (intro w hSw; (try dsimp only at hSw); go_simp; try with_reducible rfl)
          simp only [Act.put, List.setIfInBounds_toArray, List.set_cons_zero, List.set_cons_succ]
          refine wpAnyH_done (by kernel_rfl) ?_ _
          have HGF := Lib.hid (own_gr HO3.out HG3.out hgr6 (Nat.le_refl _))
          have HOF := Lib.hid ho6
          clear hHeld ho6 hgr6 hn6 HS6
          go_wp2
          go_roundw
          case rel => exact ⟨k + 1, by omega, by simp, by (rw [HE.out, fl_snoc, List.length_append]; exact HOF.out), HGF.out⟩
          case measure => simp [intOf]; omega
    · obtain rfl : k = s.L.length := by omega
      rw [List.take_length] at HOw
      obtain ⟨va, vc, rfl, hc1, hc2, hrow, hb, _⟩ := own_row HOw.out
      have HF := Lib.hid (HR.out.fallen (l := l) hg hrow hb hc1 hc2)
      have h1 := hg.keep HR.out.gn
      have h2 := hg.keep HR.out.lf
      have f1 := hg.keepF hrl (HR.out.fz 1 (by omega))
      have f2 := hg.keepF hrl (HR.out.fz 2 (by omega))
      have f4 := hg.keepF hrl (HR.out.fz 4 (by omega))
      clear hg hrow hb
      go_wp2
      go_end0
      exact ⟨rfl, HF.out⟩
set_option maxHeartbeats 4000000 in
set_option maxRecDepth 100000 in
theorem rcrash_any (h : RAt X w r fa fc ka kc s) {ad : Option Addr} {cap : Nat} {l : List Int} (hl : KAt w ad cap l) :
    Calls Try.prog 34 #[ptr r, .slice ad l.length cap] w fun e w' => e = .returned (.int .i64 (Dk.craE s)) ∧ Rf X w' r (Dk.craS s l) ∧ Tr w w' r := by
  have c1 := h.gn
  have HF := Lib.hid (rfall_any h hl)
  unfold Dk.craE Dk.craS
  cases hd : s.dead with
  | true =>
    rw [hd] at c1
    have HR : Hid (Rf X w r s) := ⟨_, _, _, _, h⟩
    clear h hl HF
    go_enter Try.func34, Try.ntmps34
    go_wp2
    go_ret
    exact ⟨rfl, HR.out, Tr.refl _ _⟩
  | false =>
    rw [hd] at c1
    clear h hl
    go_enter Try.func34, Try.ntmps34
    go_wp2_with fail
    refine HF.out.mono ?_
    rintro e w2 ⟨rfl, hr⟩
    have HR := Lib.hid hr
    clear hr HF
    go_wp2
    go_ret
    exact ⟨rfl, HR.out⟩
end Go.Proofs.Ytpnlebegenkdkaa
