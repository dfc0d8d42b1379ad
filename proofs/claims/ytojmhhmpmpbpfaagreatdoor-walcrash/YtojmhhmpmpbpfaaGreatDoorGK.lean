/- Parts of these proofs, laid together. -/
import Derived.Test.YtojmhhmpmpbpfaaGreatDoorGJ
import Derived.BigRegion
import Derived.Test.YtojmhhmpmpbpfaaGreatDoorGG
import Derived.Laws.CopyRow
namespace Go.Proofs.YtojmhhmpmpbpfaaGreatDoor
open Go.RowKit Go.Maps
open Dk (Fl Fo St Ok Up zf emp used cutF fallA kf)
variable {w w' : World} {b m : Nat} {A : Nat → Int} {s : St}

/- behind the first k files -/
def mid (s : St) (K : Nat → Int) (k : Nat) : St := { s with L := fallA K 0 (s.L.take k) ++ s.L.drop k }
theorem mid_zero (s : St) (K : Nat → Int) : mid s K 0 = s := by simp [mid, fallA]
theorem mid_end (s : St) (K : Nat → Int) : (mid s K s.L.length).L = fallA K 0 s.L := by simp [mid]
theorem used_app (X Y : List Fl) : used (X ++ Y) = used X + used Y := by simp [used]
theorem mid_ok (h : Ok s) (K : Nat → Int) (k : Nat) : Ok (mid s K k) := by
  have hup : Up (s.L.take k ++ s.L.drop k) := by rw [List.take_append_drop]; exact h.up
  obtain ⟨h1, h2, h3⟩ := List.pairwise_append.1 hup
  have e1 := Dk.fall_len K 0 (s.L.take k)
  have e2 := Dk.fall_used K 0 (s.L.take k) (fun f hf => h.fo f (List.mem_of_mem_take hf))
  have e3 : (s.L.take k).length + (s.L.drop k).length = s.L.length := by rw [← List.length_append, List.take_append_drop]
  have e4 : used (s.L.take k) + used (s.L.drop k) = used s.L := by
    rw [← used_app, List.take_append_drop]
  have e5 := used_app (fallA K 0 (s.L.take k)) (s.L.drop k)
  have := h.len; have := h.fits
  refine ⟨List.pairwise_append.2 ⟨Dk.Up.fall h1, h2, fun x hx y hy => ?_⟩, fun f hf => ?_, ?_, ?_, h.r1, h.l0, h.l1⟩
  · obtain ⟨k', g, g1, rfl, _⟩ := Dk.fall_mem hx
    exact h3 g g1 y hy
  · rcases List.mem_append.1 hf with hf | hf
    · obtain ⟨k', g, g1, rfl, g2⟩ := Dk.fall_mem hf
      exact Dk.cut_fo (h.fo g (List.mem_of_mem_take g1)) g2
    · exact h.fo f (List.mem_of_mem_drop hf)
  · show (fallA K 0 (s.L.take k) ++ s.L.drop k).length ≤ 8
    rw [List.length_append]; omega
  · show (used (fallA K 0 (s.L.take k) ++ s.L.drop k) : Int) ≤ s.room
    rw [e5]; omega
theorem mid_at {K : Nat → Int} {k : Nat} (hk : k < s.L.length) : (mid s K k).L = fallA K 0 (s.L.take k) ++ s.L[k] :: s.L.drop (k + 1) := by
  show fallA K 0 (s.L.take k) ++ s.L.drop k = _
  rw [List.drop_eq_getElem_cons hk]
theorem mid_succ {K : Nat → Int} {k : Nat} (hk : k < s.L.length) : (mid s K (k + 1)).L = fallA K 0 (s.L.take k) ++ (Dk.one (K k) s.L[k] ++ s.L.drop (k + 1)) := by
  show fallA K 0 (s.L.take (k + 1)) ++ s.L.drop (k + 1) = _
  rw [List.take_succ_eq_append_getElem hk, Dk.fall_snoc, List.length_take, Nat.min_eq_left (by omega), Nat.zero_add, List.append_assoc]
theorem mid_get {K : Nat → Int} (h : Ok s) {k : Nat} (hk : k < s.L.length) : Dk.get (mid s K k).L s.L[k].n = s.L[k] ∧ s.L[k] ∈ (mid s K k).L := by
  have : s.L[k] ∈ (mid s K k).L := by rw [mid_at hk]; exact List.mem_append_right _ List.mem_cons_self
  exact ⟨Dk.get_of (mid_ok h K k).up this, this⟩
theorem mid_put {K : Nat → Int} (h : Ok s) {k : Nat} (hk : k < s.L.length) : { mid s K k with L := Dk.put (cutF (K k) s.L[k]) (mid s K k).L } = mid s K (k + 1) := by
  have hu := (mid_ok h K k).up
  have hf := h.fo s.L[k] (List.getElem_mem hk)
  have e : Dk.put (cutF (K k) s.L[k]) (mid s K k).L = (mid s K (k + 1)).L := by
    rw [mid_succ hk]
    unfold Dk.put
    rw [Dk.cut_emp hf]
    rw [mid_at hk] at hu ⊢
    unfold Dk.one
    by_cases c : (cutF (K k) s.L[k]).y = 0
    · rw [if_pos (decide_eq_true c), if_pos c, Dk.del_mid hu (show (cutF (K k) s.L[k]).n = s.L[k].n from rfl)]
      rfl
    · rw [if_neg (by simpa using c), if_neg c, Dk.ins_mid hu (show (cutF (K k) s.L[k]).n = s.L[k].n from rfl)]
      rfl
  rw [e]
  rfl
theorem mid_same {K : Nat → Int} (h : Ok s) {k : Nat} (hk : k < s.L.length) (he : cutF (K k) s.L[k] = s.L[k]) : mid s K (k + 1) = mid s K k := by
  have hf := h.fo s.L[k] (List.getElem_mem hk)
  have e : (mid s K (k + 1)).L = (mid s K k).L := by
    rw [mid_succ hk, mid_at hk]
    unfold Dk.one
    have h1 := Dk.cut_size (k := K k) hf
    have h2 := hf.d1
    rw [he] at h1 ⊢
    rw [if_neg (by omega)]
    rfl
  show ({ s with L := (mid s K (k + 1)).L } : St) = { s with L := (mid s K k).L }
  rw [e]
theorem mid_fall {K : Nat → Int} {keep : List Int} (hl : s.L.length ≤ 8) (hK : ∀ i, i < 8 → K i = kf keep i) : ({ mid s K s.L.length with dead := true, left := 0 } : St) = Dk.fall s keep := by
  have e : fallA K 0 (s.L.take s.L.length) ++ s.L.drop s.L.length = fallA (kf keep) 0 s.L := by
    simp only [List.take_length, List.drop_length, List.append_nil]
    exact Dk.fall_congr (fun j hj => hK j (by omega))
  unfold mid Dk.fall
  rw [e]
/- the numbers -/
def nf (f : Fl) : List Value := [.int .i64 f.n]
theorem nms_flat (L : List Fl) : nms L = L.flatMap nf := by
  induction L with
  | nil => rfl
  | cons x t ih => simp only [nms, List.map_cons, List.flatMap_cons, nf] at ih ⊢; rw [ih]; rfl
theorem num_at {L : List Fl} {ad : Option Addr} (h : RowAt nf w ad L) (k : Nat) (hk : k < L.length) : ∃ x off, ad = some ⟨x, off, none⟩ ∧ x < w.heap.size ∧ w.cell? ⟨x, off + k, none⟩ = some (.int .i64 L[k].n) := by
  have hc : ∀ x : Fl, (nf x).length = 1 := fun _ => rfl
  have := flat_get hc L k hk 0 (by omega)
  obtain ⟨x, off, e, h1, h2⟩ := h _ _ this
  refine ⟨x, off, e, h1, ?_⟩
  simpa using h2
/- the array -/
abbrev kA (K : Nat → Int) : Value := .agg #[.int .i64 (K 0), .int .i64 (K 1), .int .i64 (K 2), .int .i64 (K 3), .int .i64 (K 4), .int .i64 (K 5), .int .i64 (K 6), .int .i64 (K 7)]
abbrev kC (K : Nat → Int) : Obj := .cells #[.int .i64 (K 0), .int .i64 (K 1), .int .i64 (K 2), .int .i64 (K 3), .int .i64 (K 4), .int .i64 (K 5), .int .i64 (K 6), .int .i64 (K 7)] 63
theorem kC_at (w : World) (K : Nat → Int) (i : Nat) (hi : i < 8) : (w.alloc (kC K)).cell? ⟨w.heap.size, i, none⟩ = some (.int .i64 (K i)) := by
  match i, hi with
  | 0, _ => simp
  | 1, _ => simp
  | 2, _ => simp
  | 3, _ => simp
  | 4, _ => simp
  | 5, _ => simp
  | 6, _ => simp
  | 7, _ => simp
theorem cut_eq {k : Int} {f : Fl} : Dk.fst f (f.y + min (max k 0) ((f.d.size : Int) - f.y)) = cutF k f := rfl
def FaR (w w' : World) (b m : Nat) (s : St) : Prop := (∃ A, DAt w' b m A s) ∧ Td w w' b m
theorem FilesAt.set {L : List Fl} (h : FilesAt w m L) (hne : b ≠ m) (o : Nat) (u : Value) : FilesAt (w.setCell ⟨b, o, none⟩ u) m L := h.keep (Below.heap_setCell w _ u m (fun e => hne e.symm))
/- the keep is written anew -/
abbrev setK (w : World) (b : Nat) (K : Nat → Int) : World := (((((((w.setCell ⟨b, 4, none⟩ (.int .i64 (K 0))).setCell ⟨b, 5, none⟩ (.int .i64 (K 1))).setCell ⟨b, 6, none⟩ (.int .i64 (K 2))).setCell ⟨b, 7, none⟩ (.int .i64 (K 3))).setCell ⟨b, 8, none⟩ (.int .i64 (K 4))).setCell ⟨b, 9, none⟩ (.int .i64 (K 5))).setCell ⟨b, 10, none⟩ (.int .i64 (K 6))).setCell ⟨b, 11, none⟩ (.int .i64 (K 7))
theorem DAt.setKeep (h : DAt w b m A s) (K : Nat → Int) (hk : s.left ≠ 0 → ∀ i, i < 8 → K i = kf s.keep i) : DAt (setK w b K) b m K s ∧ Td w (setK w b K) b m := by
  have hne := h.ne
  have h0 := h.mp
  have h1 := h.rm
  have h2 := h.dd
  have h3 := h.lf
  have k0 := h.kp 0 (by omega)
  have k1 := h.kp 1 (by omega)
  have k2 := h.kp 2 (by omega)
  have k3 := h.kp 3 (by omega)
  have k4 := h.kp 4 (by omega)
  have k5 := h.kp 5 (by omega)
  have k6 := h.kp 6 (by omega)
  have k7 := h.kp 7 (by omega)
  simp only [Nat.reduceAdd, Nat.add_zero] at k0 k1 k2 k3 k4 k5 k6 k7
  refine ⟨⟨by simp [setK, go_sem, *], by simp [setK, go_sem, *], by simp [setK, go_sem, *], by simp [setK, go_sem, *], ?_, ?_, ?_, hk, h.ok⟩, ?_⟩
  · intro i hi
    match i, hi with
    | 0, _ => simp [setK, go_sem, *]
    | 1, _ => simp [setK, go_sem, *]
    | 2, _ => simp [setK, go_sem, *]
    | 3, _ => simp [setK, go_sem, *]
    | 4, _ => simp [setK, go_sem, *]
    | 5, _ => simp [setK, go_sem, *]
    | 6, _ => simp [setK, go_sem, *]
    | 7, _ => simp [setK, go_sem, *]
  · intro o ho
    simp only [setK, World.frozen?_setCell]
    exact h.fz o ho
  · exact (((((((h.fl.set hne _ _).set hne _ _).set hne _ _).set hne _ _).set hne _ _).set hne _ _).set hne _ _).set hne _ _
  · exact (((((((Td.set _ _ _ _ _).trans (Td.set _ _ _ _ _)).trans (Td.set _ _ _ _ _)).trans (Td.set _ _ _ _ _)).trans (Td.set _ _ _ _ _)).trans (Td.set _ _ _ _ _)).trans (Td.set _ _ _ _ _)).trans (Td.set _ _ _ _ _)
theorem DAt.done (h : DAt w b m A s) : DAt (setK ((w.setCell ⟨b, 2, none⟩ (.bool true)).setCell ⟨b, 3, none⟩ (.int .i64 0)) b (fun _ => 0)) b m (fun _ => 0) { s with dead := true, left := 0 } ∧ Td w (setK ((w.setCell ⟨b, 2, none⟩ (.bool true)).setCell ⟨b, 3, none⟩ (.int .i64 0)) b (fun _ => 0)) b m := by
  have h1 := (h.setDead true).setLeft 0 s.keep (fun e => absurd rfl e) ⟨h.ok.up, h.ok.fo, h.ok.len, h.ok.fits, h.ok.r1, Int.le_refl _, by simp⟩
  obtain ⟨h2, h3⟩ := h1.setKeep (fun _ => 0) (fun e => absurd rfl e)
  exact ⟨h2, ((Td.set _ _ _ _ _).trans (Td.set _ _ _ _ _)).trans h3⟩
set_option maxHeartbeats 8000000 in
set_option maxRecDepth 100000 in
theorem fall_any (h : DAt w b m A s) (K : Nat → Int) {keep : List Int} (hK : ∀ i, i < 8 → K i = kf keep i) :
    Calls Tryz.prog 109 #[ptr b, kA K] w fun e w' => e = .returned (.tuple #[]) ∧ FaR w w' b m (Dk.fall s keep) := by
  have hb0 := h.lt
  have hm0 := h.fl.lt
  have HO := Lib.hid h.ok
  have HD := Lib.hid h
  have HF := Lib.hid (files_any (h.gr ((Gr.refl w).alloc (o := kC K))))
  have HK : Hid (∀ i, i < 8 → (w.alloc (kC K)).cell? ⟨w.heap.size, i, none⟩ = some (.int .i64 (K i))) := fun i hi => kC_at w K i hi
  have HE := Lib.hid (mid_fall (K := K) (keep := keep) h.ok.len hK)
  have hl8 := h.ok.len
  clear h hK
  go_enter Tryz.func109, Tryz.ntmps109
  go_wp2_with fail
  refine HF.out.mono ?_
  rintro e w1 ⟨v, rfl, hrow, hnil, hg1⟩
  rw [nms_flat] at hrow
  obtain ⟨ad, cap, rfl, hcap, hcm, hR, hbase, _⟩ := own_row hrow
  have HT1 : Hid (Td w w1 b m) := Td.gr ((Gr.refl w).alloc.trans hg1)
  have HD1 : Hid (DAt w1 b m A s) := HD.out.gr ((Gr.refl w).alloc.trans hg1)
  have HK1 : Hid (∀ i, i < 8 → w1.cell? ⟨w.heap.size, i, none⟩ = some (.int .i64 (K i))) := fun i hi => hg1.keep (HK.out i hi)
  have HRw := Lib.hid hR
  have hbase' : ∀ a, ad = some a → w.heap.size ≤ a.block := fun a e => by have := hbase a e; simp at this; omega
  have HBs := Lib.hid hbase'
  clear hrow hnil hg1 hR hbase hbase' HF HD HK
  generalize hW0 : w.heap.size = g0 at *
  go_wp2
  go_loopw [12] (fun i wr => ∃ (k : Nat), k ≤ s.L.length ∧ i = .int .i64 (k : Int) ∧ DAt wr b m A (mid s K k) ∧ Td w1 wr b m) (fun i _ => s.L.length - (intOf i).toNat)
  case atStart => exact ⟨0, Nat.zero_le _, rfl, by rw [mid_zero]; exact HD1.out, Td.refl _ _ _⟩
  case round =>
    obtain ⟨k, hk, rfl, hd, ht⟩ := hrel
    by_cases hlt : k < s.L.length
    · have HFo := Lib.hid (HO.out.fo s.L[k] (List.getElem_mem hlt))
      have hn0 := HFo.out.n0
      have hn1 := HFo.out.n1
      have hy0 := HFo.out.y0
      have hy1 := HFo.out.y1
      have hsz : s.L[k].d.size ≤ 200000 := by
        have h1 := Dk.used_del HO.out.up (Dk.has_of (List.getElem_mem hlt))
        rw [Dk.get_of HO.out.up (List.getElem_mem hlt)] at h1
        have := HO.out.fits; have := HO.out.r1; omega
      obtain ⟨hget, hmem⟩ := mid_get (K := K) HO.out hlt
      have hlook := (hd.fl.look (k := s.L[k].n) (by omega) (by omega)).2
      rw [hget] at hlook
      have hmp := hd.mp
      have hkk := ht.cell (by omega) (by omega) (HK1.out k (by omega))
      obtain ⟨x, off, hade, hxb, hxc⟩ := num_at HRw.out k hlt
      have hxg := HBs.out _ hade
      simp only at hxg
      have hnum := ht.cell (by omega) (by omega) hxc
      have hstay : (0 : Int) ≤ s.L[k].y + min (max (K k) 0) ((s.L[k].d.size : Int) - s.L[k].y) ∧ s.L[k].y + min (max (K k) 0) ((s.L[k].d.size : Int) - s.L[k].y) ≤ s.L[k].d.size := by omega
      have HFs : Hid (∀ w', Calls Tryz.prog 98 #[flV s.L[k], .int .i64 (s.L[k].y + min (max (K k) 0) ((s.L[k].d.size : Int) - s.L[k].y))] w' fun e w2 => e = .returned (flV (cutF (K k) s.L[k])) ∧ Gr w' w2) := fun w' => first_any s.L[k] w' hstay.1 hstay.2 (by omega)
      have hcsz : (cutF (K k) s.L[k]).d.size ≤ 200000 := by have h1 := Dk.cut_size (k := K k) HFo.out; have h2 := (Dk.cut_le (k := K k) HFo.out).1; omega
      have HOw : Hid (∀ w', Calls Tryz.prog 27 #[flV (cutF (K k) s.L[k])] w' fun e w2 => e = .returned (flV (cutF (K k) s.L[k])) ∧ Gr w' w2) := fun w' => own_any _ w' (by omega)
      have HPt : Hid (∀ w', DAt w' b m A (mid s K k) → Calls Tryz.prog 26 #[ptr b, flV (cutF (K k) s.L[k])] w' fun e w2 => e = .returned (.tuple #[]) ∧ DAt w2 b m A (mid s K (k + 1)) ∧ Td w' w2 b m) := by
        intro w' hw'
        have e := mid_put (K := K) HO.out hlt
        rw [← e]
        exact put_any hw' (fun _ => Dk.has_of (f := s.L[k]) hmem) (by show _ ≤ s.L[k].n; omega) (by show s.L[k].n ≤ _; omega) (by rw [e]; exact mid_ok HO.out K (k + 1))
      have HNq : Hid (∀ W : World, (binOp .neq 24 (flV (cutF (K k) s.L[k])) (flV s.L[k])).run Tryz.prog W = .ok (.bool (!eqF (cutF (K k) s.L[k]) s.L[k])) W) := fun W => neq_fl _ _ W
      have HSm : Hid (eqF (cutF (K k) s.L[k]) s.L[k] = true → mid s K (k + 1) = mid s K k) := fun e => mid_same HO.out hlt ((eqF_iff _ _).1 e)
      have HD := Lib.hid hd
      have HT := Lib.hid ht
      subst hade
      clear hd ht hget hmem HFo HBs HRw HK1 HD1 hxc
      generalize s.L[k] = f at *
      generalize cutF (K k) f = cf at *
      generalize hKk : K k = kk at *
      obtain ⟨fn, fd, fy⟩ := f
      obtain ⟨cn, cd, cy⟩ := cf
      simp only at *
      have hkk2 := (Gr.refl wr).alloc.keep (w1 := wr.alloc (.cells #[.int .i64 fn, .string fd, .int .i64 fy] 24)) hkk
      go_wp2
      go_region
      go_wp2_with fail
      refine (HFs.out _).mono ?_
      rintro e w2 ⟨rfl, hg2⟩
      have HG2 : Hid (Gr wr w2) := (Gr.refl wr).alloc.drew.trans hg2
      obtain ⟨c0, c1, c2, f0, f1, f2, _⟩ := ((BoxAt.new wr (.int .i64 fn) (.string fd) (.int .i64 fy) 24 _ rfl).gr (Gr.refl _).drew).gr hg2
      clear hg2 hlook hmp hkk hkk2 hnum HFs hstay
      cases he : eqF ⟨cn, cd, cy⟩ ⟨fn, fd, fy⟩ with
      | true =>
        rw [he] at HNq
        have hnq := HNq.out
        have HS := HSm.out he
        go_wp2
        go_roundw
        case rel => exact ⟨k + 1, by omega, by simp, by rw [HS]; exact HD.out.gr HG2.out.alloc, HT.out.gr' HG2.out.alloc⟩
        case measure => simp [intOf]; omega
      | false =>
        rw [he] at HNq
        have hnq := HNq.out
        go_wp2_with fail
        refine (HOw.out _).mono ?_
        rintro e w3 ⟨rfl, hg3⟩
        have HG3 : Hid (Gr wr w3) := HG2.out.alloc.trans hg3
        clear hg3 c0 c1 c2 f0 f1 f2
        go_wp2_with fail
        refine (HPt.out _ (HD.out.gr HG3.out)).mono ?_
        rintro e w4 ⟨rfl, hd4, ht4⟩
        have HD4 := Lib.hid hd4
        have HT4 := Lib.hid ht4
        clear hd4 ht4
        go_wp2
        go_roundw
        case rel => exact ⟨k + 1, by omega, by simp, HD4.out, (HT.out.gr' HG3.out).trans HT4.out⟩
        case measure => simp [intOf]; omega
    · obtain rfl : k = s.L.length := by omega
      have hcs := hd.mp
      have c2 := hd.dd
      have c3 := hd.lf
      have HR : Hid (FaR w (setK ((wr.setCell ⟨b, 2, none⟩ (.bool true)).setCell ⟨b, 3, none⟩ (.int .i64 0)) b (fun _ => 0)) b m (Dk.fall s keep)) := by
        obtain ⟨q1, q2⟩ := hd.done
        rw [HE.out] at q1
        exact ⟨⟨_, q1⟩, (HT1.out.trans ht).trans q2⟩
      have k0 := hd.kp 0 (by omega)
      have k1 := hd.kp 1 (by omega)
      have k2 := hd.kp 2 (by omega)
      have k3 := hd.kp 3 (by omega)
      have k4 := hd.kp 4 (by omega)
      have k5 := hd.kp 5 (by omega)
      have k6 := hd.kp 6 (by omega)
      have k7 := hd.kp 7 (by omega)
      simp only [Nat.reduceAdd, Nat.add_zero] at k0 k1 k2 k3 k4 k5 k6 k7
      have f2 := hd.fz 2 (by omega)
      have f3 := hd.fz 3 (by omega)
      have f4 := hd.fz 4 (by omega)
      have f5 := hd.fz 5 (by omega)
      have f6 := hd.fz 6 (by omega)
      have f7 := hd.fz 7 (by omega)
      have f8 := hd.fz 8 (by omega)
      have f9 := hd.fz 9 (by omega)
      have f10 := hd.fz 10 (by omega)
      have f11 := hd.fz 11 (by omega)
      clear hd ht HRw HBs HK1 HD1 HT1 HE
      go_wp2
      go_end0
      exact ⟨rfl, HR.out⟩
end Go.Proofs.YtojmhhmpmpbpfaaGreatDoor
namespace Go.Proofs.YtojmhhmpmpbpfaaGreatDoor
open Go.RowKit Go.Maps
open Dk (Fl Fo St Ok Up zf emp used cutF fallA kf)
variable {w w' : World} {b m : Nat} {A : Nat → Int} {s : St}

theorem FaR.mk (h : DAt w' b m A s) (t : Td w w' b m) : FaR w w' b m s := ⟨⟨A, h⟩, t⟩
theorem FaR.gr {a w w' : World} (g : Gr a w) (h : FaR w w' b m s) : FaR a w' b m s := ⟨h.1, (Td.gr g).trans h.2⟩
theorem FaR.td {a w w' : World} (g : Td a w b m) (h : FaR w w' b m s) : FaR a w' b m s := ⟨h.1, g.trans h.2⟩
theorem FaR.up {a w w' : World} (h : FaR a w b m s) (g : Gr w w') : FaR a w' b m s := by
  obtain ⟨⟨A, h⟩, t⟩ := h
  exact ⟨⟨A, h.gr g⟩, t.gr' g⟩
theorem FaR.refl (h : DAt w b m A s) : FaR w w b m s := ⟨⟨A, h⟩, Td.refl _ _ _⟩
set_option maxHeartbeats 4000000 in
set_option maxRecDepth 100000 in
theorem count_any (h : DAt w b m A s) : Calls Tryz.prog 96 #[ptr b] w fun e w' => e = .returned (.int .i64 (Dk.cntE s)) ∧ FaR w w' b m (Dk.cntS s) := by
  have c3 := h.lf
  have f3 := h.fz 3 (by omega)
  have hl0 := h.ok.l0
  have hl1 := h.ok.l1
  unfold Dk.cntE Dk.cntS
  by_cases h1 : s.left = 0
  · rw [if_pos h1, if_pos h1]
    rw [h1] at c3
    have HR := Lib.hid (FaR.refl h)
    clear h f3
    go_enter Tryz.func96, Tryz.ntmps96
    go_wp2
    go_ret
    exact ⟨rfl, HR.out⟩
  · rw [if_neg h1, if_neg h1]
    have h2 := h.setLeft (s.left - 1) s.keep (fun _ => h.ka h1) ⟨h.ok.up, h.ok.fo, h.ok.len, h.ok.fits, h.ok.r1, by simp only; omega, by simp only; omega⟩
    have hlb : (s.left == 0) = false := by simpa using h1
    by_cases h3 : 0 < s.left - 1
    · rw [if_pos h3, if_pos h3]
      have HR := Lib.hid (FaR.mk h2 (Td.set _ _ _ _ _))
      have hd3 : decide (0 < s.left - 1) = true := decide_eq_true h3
      clear h h2
      go_enter Tryz.func96, Tryz.ntmps96
      go_wp2
      go_ret
      exact ⟨rfl, HR.out⟩
    · rw [if_neg h3, if_neg h3]
      have h4 : s.left - 1 = 0 := by omega
      have hd3 : decide (0 < s.left - 1) = false := decide_eq_false h3
      have HF := Lib.hid (fall_any h2 A (keep := s.keep) (h.ka h1))
      have HT := Lib.hid (Td.set w b m 3 (.int .i64 (s.left - 1)))
      have k0 := h.kp 0 (by omega)
      have k1 := h.kp 1 (by omega)
      have k2 := h.kp 2 (by omega)
      have k3 := h.kp 3 (by omega)
      have k4 := h.kp 4 (by omega)
      have k5 := h.kp 5 (by omega)
      have k6 := h.kp 6 (by omega)
      have k7 := h.kp 7 (by omega)
      simp only [Nat.reduceAdd, Nat.add_zero] at k0 k1 k2 k3 k4 k5 k6 k7
      rw [h4] at HF HT
      clear h h2
      go_enter Tryz.func96, Tryz.ntmps96
      go_wp2_with fail
      refine HF.out.mono ?_
      rintro e w2 ⟨rfl, hr⟩
      have HR := Lib.hid (FaR.td HT.out hr)
      clear hr
      go_wp2
      go_ret
      exact ⟨rfl, HR.out⟩
set_option maxHeartbeats 4000000 in
set_option maxRecDepth 100000 in
theorem change_any (h : DAt w b m A s) {g : Fl} {k : Int} (hg : g ∈ s.L) (h0 : 0 ≤ k) (h1 : k ≤ g.d.size) :
    Calls Tryz.prog 97 #[ptr b, flV (Dk.fst g k)] w fun e w' => e = .returned (.int .i64 (Dk.cntE s)) ∧ FaR w w' b m (Dk.chS s (Dk.fst g k)) := by
  have hok := h.ok
  have hfo := hok.fo g hg
  have hsz : g.d.size ≤ 200000 := by
    have h1 := Dk.used_del hok.up (Dk.has_of hg)
    rw [Dk.get_of hok.up hg] at h1
    have := hok.fits; have := hok.r1; omega
  have HC := Lib.hid (count_any (h.gr ((Gr.refl w).alloc (o := .cells #[.int .i64 (Dk.fst g k).n, .string (Dk.fst g k).d, .int .i64 (Dk.fst g k).y] 24))))
  have HO : Hid (∀ w', Calls Tryz.prog 27 #[flV (Dk.fst g k)] w' fun e w2 => e = .returned (flV (Dk.fst g k)) ∧ Gr w' w2) := fun w' => own_any _ w' (by simp [Dk.fst]; omega)
  have hbl := h.lt
  have hml := h.fl.lt
  by_cases hc : Dk.cntE s = 0
  · have HP : Hid (∀ w' A', DAt w' b m A' (Dk.cntS s) → Calls Tryz.prog 26 #[ptr b, flV (Dk.fst g k)] w' fun e w2 => e = .returned (.tuple #[]) ∧ FaR w' w2 b m (Dk.chS s (Dk.fst g k))) := by
      intro w' A' hw'
      have eL := Dk.cnt_L hc
      have e : Dk.chS s (Dk.fst g k) = { Dk.cntS s with L := Dk.put (Dk.fst g k) (Dk.cntS s).L } := by unfold Dk.chS; rw [if_pos hc, eL]
      have hok2 := hok.ch hg h0 h1
      rw [e] at hok2 ⊢
      refine (put_any hw' (fun _ => ?_) ?_ ?_ hok2).mono ?_
      · rw [eL]; exact (Dk.has_of hg : Dk.has s.L g.n = true)
      · have := hfo.n0; show _ ≤ g.n; omega
      · have := hfo.n1; show g.n ≤ _; omega
      · rintro e w2 ⟨rfl, q1, q2⟩
        exact ⟨rfl, FaR.mk q1 q2⟩
    rw [hc] at HC ⊢
    clear h hg hok hfo
    generalize Dk.fst g k = f at *
    generalize Dk.chS s f = cs at *
    generalize Dk.cntS s = ct at *
    obtain ⟨fn, fd, fy⟩ := f
    simp only at *
    go_enter Tryz.func97, Tryz.ntmps97
    go_wp2_with fail
    refine HC.out.mono ?_
    rintro e w1 ⟨rfl, ⟨A1, hd1⟩, ht1⟩
    obtain ⟨c0, c1, c2, _, _, _, _⟩ := BoxAt.new w (.int .i64 fn) (.string fd) (.int .i64 fy) 24 _ rfl
    have d0 := ht1.cell (by omega) (by omega) c0
    have d1 := ht1.cell (by omega) (by omega) c1
    have d2 := ht1.cell (by omega) (by omega) c2
    have HD1 := Lib.hid hd1
    have HT1 := Lib.hid ((Td.gr (Gr.refl w).alloc).trans ht1)
    clear hd1 ht1 c0 c1 c2 HC
    go_wp2_with fail
    refine (HO.out _).mono ?_
    rintro e w2 ⟨rfl, hg2⟩
    have HG2 := Lib.hid hg2
    clear hg2 d0 d1 d2
    go_wp2_with fail
    refine (HP.out _ _ (HD1.out.gr HG2.out)).mono ?_
    rintro e w3 ⟨rfl, hr⟩
    have HR := Lib.hid (FaR.td (HT1.out.gr' HG2.out) hr)
    clear hr
    go_wp2
    go_ret
    exact ⟨rfl, HR.out⟩
  · have e : Dk.chS s (Dk.fst g k) = Dk.cntS s := by unfold Dk.chS; rw [if_neg hc]
    rw [e]
    have hcb : (Dk.cntE s == 0) = false := by simpa using hc
    clear h hg hok hfo e HO
    generalize Dk.fst g k = f at *
    generalize Dk.cntS s = ct at *
    generalize Dk.cntE s = ce at *
    obtain ⟨fn, fd, fy⟩ := f
    simp only at *
    go_enter Tryz.func97, Tryz.ntmps97
    go_wp2_with fail
    refine HC.out.mono ?_
    rintro e w1 ⟨rfl, hr⟩
    have HR := Lib.hid (FaR.gr (Gr.refl w).alloc hr)
    clear hr HC
    go_wp2
    go_ret
    exact ⟨rfl, HR.out⟩
/- places -/
theorem setRow_new (w : World) (cur arr : Array Value) (t : TypeId) (g : Nat) (hg : g = w.heap.size) : (w.alloc (.cells cur t)).setRow g arr = w.alloc (.cells arr t) := by
  subst hg
  unfold World.setRow World.alloc
  simp only [World.mk.injEq, and_true]
  apply Array.ext_getElem?
  intro i
  rw [Array.getElem?_modify]
  by_cases h : w.heap.size = i
  · subst h; simp
  · rw [if_neg h]
    rw [Array.getElem?_push, Array.getElem?_push, if_neg (fun e => h e.symm), if_neg (fun e => h e.symm)]
theorem kf_row (l : List Int) : ([] ++ ((l.take 8).map (Value.int .i64)) ++ ([.int .i64 0, .int .i64 0, .int .i64 0, .int .i64 0, .int .i64 0, .int .i64 0, .int .i64 0, .int .i64 0] : List Value).drop (0 + ((l.take 8).map (Value.int .i64)).length)).toArray
    = #[.int .i64 (kf l 0), .int .i64 (kf l 1), .int .i64 (kf l 2), .int .i64 (kf l 3), .int .i64 (kf l 4), .int .i64 (kf l 5), .int .i64 (kf l 6), .int .i64 (kf l 7)] := by
  match l with
  | [] => rfl
  | [_] => rfl
  | [_, _] => rfl
  | [_, _, _] => rfl
  | [_, _, _, _] => rfl
  | [_, _, _, _, _] => rfl
  | [_, _, _, _, _, _] => rfl
  | [_, _, _, _, _, _, _] => rfl
  | _ :: _ :: _ :: _ :: _ :: _ :: _ :: _ :: _ => rfl
abbrev k0 : Nat → Int := fun _ => 0
/- a row of numbers that came in -/
structure KAt (w : World) (ad : Option Addr) (cap : Nat) (l : List Int) : Prop where
  row : IntsAt w ad l
  cap0 : ad = none → cap = 0
theorem KAt.gr {ad : Option Addr} {cap : Nat} {l : List Int} (h : KAt w ad cap l) (g : Gr w w') : KAt w' ad cap l := ⟨h.row.gr g, h.cap0⟩
theorem KAt.none (w : World) : KAt w .none 0 [] := ⟨IntsAt.nil, fun _ => rfl⟩
set_option maxRecDepth 100000 in
theorem copy_run {ad : Option Addr} {cap : Nat} {l : List Int} (h : KAt w ad cap l) (ty : TypeId) :
    ∃ n, (Builtin.copy_ #[43, 43] ty #[.slice (some ⟨w.heap.size + 1, 0, none⟩) 8 8, .slice ad l.length cap]).run Tryz.prog ((w.alloc (kC k0)).alloc (kC k0)) = .ok (goInt n) ((w.alloc (kC k0)).alloc (kC (kf l))) := by
  cases ad with
  | none =>
    have hl : l = [] := by
      cases l with
      | nil => rfl
      | cons x t =>
        obtain ⟨_, _, e, _⟩ := h.row 0 (by simp)
        cases e
    subst hl
    obtain rfl := h.cap0 rfl
    exact ⟨0, run_copy_nil Tryz.prog _ 43 43 ty 3 _ 8 8 Tryz.underlying43 (by kernel_rfl)⟩
  | some a =>
    refine ⟨((l.take 8).map (Value.int .i64)).length, ?_⟩
    have hs : (w.alloc (kC k0)).heap.size = w.heap.size + 1 := by simp
    have := run_copy_row (P := Tryz.prog) ((w.alloc (kC k0)).alloc (kC k0)) 43 43 ty 3 (w.heap.size + 1) 0 8 8 a l.length cap #[.int .i64 0, .int .i64 0, .int .i64 0, .int .i64 0, .int .i64 0, .int .i64 0, .int .i64 0, .int .i64 0] 63 ((l.take 8).map (Value.int .i64)) Tryz.underlying43 (by kernel_rfl)
      (by rw [← hs]; exact (MapKept.heap_alloc _ _).1) (by rw [List.length_map, List.length_take]; exact Nat.min_comm _ _) (by
        intro j v hv
        rw [List.getElem?_map] at hv
        cases e : (l.take 8)[j]? with
        | none => rw [e] at hv; cases hv
        | some z =>
          rw [e] at hv
          cases hv
          rw [List.getElem?_take] at e
          split at e
          · obtain ⟨hj, rfl⟩ := List.getElem?_eq_some_iff.1 e
            obtain ⟨b, off, ea, hb, hc⟩ := h.row j hj
            cases ea
            rw [Addr.add_lit]
            exact (Gr.refl w).alloc.alloc.keep hc
          · cases e) (by simp; omega) (by
        intro v hv
        obtain ⟨z, _, rfl⟩ := List.mem_map.1 hv
        rfl)
    rw [this]
    congr 1
    rw [show (#[Value.int .i64 0, .int .i64 0, .int .i64 0, .int .i64 0, .int .i64 0, .int .i64 0, .int .i64 0, .int .i64 0] : Array Value).toList.take 0 = [] from rfl]
    rw [kf_row l]
    exact setRow_new _ _ _ _ _ hs.symm
set_option maxHeartbeats 4000000 in
set_option maxRecDepth 100000 in
theorem places_any {ad : Option Addr} {cap : Nat} {l : List Int} (h : KAt w ad cap l) :
    Calls Tryz.prog 42 #[.slice ad l.length cap] w fun e w' => e = .returned (kA (kf l)) ∧ Gr w w' := by
  obtain ⟨n, hc⟩ := copy_run h 3
  clear h
  go_enter Tryz.func42, Tryz.ntmps42
  go_wp2
  exact bodyPost_ret (v := kA (kf l)) (by simp [results, Tryz.results42, go_sem]) rfl ⟨rfl, (by (repeat' (first | with_reducible exact Gr.refl _ | with_reducible refine Gr.set ?_ _ ?_ _ | with_reducible refine Gr.alloc ?_ | with_reducible refine Gr.drew ?_ | with_reducible refine Gr.trans ?_ (by assumption))) <;> (first | (simp; done) | (simp; omega) | omega))⟩
end Go.Proofs.YtojmhhmpmpbpfaaGreatDoor
