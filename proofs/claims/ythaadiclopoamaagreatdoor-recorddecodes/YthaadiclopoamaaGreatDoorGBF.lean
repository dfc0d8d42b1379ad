/- Parts of these proofs, laid together. -/
import Derived.Test.YthaadiclopoamaaGreatDoorGBB
import Derived.Test.YthaadiclopoamaaGreatDoorGA
import Derived.Deep.DeepCutAuto
/- The document's Show. -/
set_option maxRecDepth 100000
set_option maxHeartbeats 8000000
namespace Go.Proofs.YthaadiclopoamaaGreatDoor
open Go.RowKit

theorem refShow_any (r n : Int) (L : List (Int × Int)) (ad : Option Addr) (cap : Nat) (w : World) (hL : HopsAt w ad L) (hn : L.length <= 9223372036854775807) :
  Calls Tryz.prog 24 #[.agg #[.int .i64 r, .int .i64 n, .slice ad L.length cap]] w fun e w' =>
   ((Idn.mayB r n L = true /\ e = .returned (.tuple #[.string ⟨(Idn.showT r n L).toArray⟩, .int .i64 0])) ∨ (Idn.mayB r n L = false /\ e = .returned (.tuple #[.string ⟨#[]⟩, .int .i64 30]))) /\ Gr w w' := by
 have HC : Hid (∀ w', Gr w w' -> Calls Tryz.prog 29 #[.agg #[.int .i64 r, .int .i64 n, .slice ad L.length cap]] w' fun e w2 => e = .returned (.int .i64 (errB (Idn.mayB r n L))) /\ Gr w' w2) := fun w' g => refCheck_any r n L ad cap w' (hL.gr g) hn
 by_cases hm : Idn.mayB r n L = true
 ·obtain ⟨hr0, hr1, hn0, hn1, h4, hall⟩ := may_root hm
  have HI : Hid (∀ (x : Int) (w' : World), 0 <= x -> x <= 999999 -> Calls Tryz.prog 26 #[.int .i64 x] w' fun e w2 => e = .returned (.string ⟨(digsT x).toArray⟩) /\ Gr w' w2) := by
   intro x w' h0 h1
   have := digits_any x.toNat w' (by omega)
   rw [show ((x.toNat : Nat) : Int) = x by omega] at this
   refine this.mono ?_
   rintro e w2 ⟨rfl, rfl⟩
   exact ⟨rfl, Gr.refl _⟩
  have hlr : (digsT r).length <= 6 := digs_len r.toNat 5 (by omega)
  have hln : (digsT n).length <= 6 := digs_len n.toNat 5 (by omega)
  have ha1 := add_lists (digsT r) [46] (by simp; omega)
  have ha2 := add_lists (digsT r ++ [46]) (digsT n) (by simp; omega)
  have HT0 : Hid (Idn.showT r n [] = digsT r ++ [46] ++ digsT n) := by show _ = _; simp [Idn.showT, digsT]
  generalize digsT r ++ [46] ++ digsT n = u2 at ha2 HT0
  generalize digsT r ++ [46] = u1 at ha1 ha2
  rw [hm, show errB true = 0 from rfl] at HC
  have HM : Hid (Idn.mayB r n L = true) := hm
  have HL : Hid (HopsAt w ad L) := hL
  have HA : Hid (∀ x ∈ L, 0 <= x.1 /\ x.1 < 8 /\ 0 <= x.2 /\ x.2 < 16) := hall
  clear hL hm hall
  go_enter Tryz.func24, Tryz.ntmps24
  go_wp2_with fail
  refine (HC.out _ (by repeat(first|exact Gr.r _|refine Gr.a ?_|refine Gr.d ?_|refine Gr.t ?_ (by assumption)))).mono ?_
  rintro e1 w1 ⟨rfl, hg1⟩
  have HB : Hid (BoxAt w1 w.heap.size (.int .i64 r) (.int .i64 n) (.slice ad L.length cap)) := (BoxAt.new w _ _ _ 24 _ rfl).gr hg1
  have HG1 : Hid (Gr w w1) := (by repeat(first|exact Gr.r _|refine Gr.a ?_|refine Gr.d ?_|refine Gr.t ?_ (by assumption)))
  clear hg1
  obtain ⟨p0, p1, p2, _, _, _, plt⟩ := HB.out
  go_upto_region 3 with fail
  go_cut [4] (fun s4 wx => s4 = .string ⟨u2.toArray⟩ /\ Gr w1 wx)
  case first =>
   have g0 := HG1.out
   go_region_held3 (fun w' => Gr w w' /\ Gr w1 w' /\ w'.cell? ⟨w.heap.size, 0, none⟩ = some (.int .i64 r) /\ w'.cell? ⟨w.heap.size, 1, none⟩ = some (.int .i64 n))
    ((go_split_ands; exact ⟨(by repeat(first|exact Gr.r _|refine Gr.a ?_|refine Gr.d ?_|refine Gr.t ?_ (by assumption))), (by repeat(first|exact Gr.r _|refine Gr.a ?_|refine Gr.d ?_|refine Gr.t ?_ (by assumption))), Gr.keep (W := w1) (by repeat(first|exact Gr.r _|refine Gr.a ?_|refine Gr.d ?_|refine Gr.t ?_ (by assumption))) p0, Gr.keep (W := w1) (by repeat(first|exact Gr.r _|refine Gr.a ?_|refine Gr.d ?_|refine Gr.t ?_ (by assumption))) p1⟩))
    ((first | (go_at_call_of 26 (Value.int IntKind.i64 r); refine (HI.out r _ (by omega) (by omega)).mono ?_; rintro e w2 ⟨rfl, hg2⟩) | (go_at_call 26; refine (HI.out n _ (by omega) (by omega)).mono ?_; rintro e w3 ⟨rfl, hg3⟩)))
   all_goals (go_wp2_with fail; go_meet; exact ⟨rfl, (by repeat(first|exact Gr.r _|refine Gr.a ?_|refine Gr.d ?_|refine Gr.t ?_ (by assumption)))⟩)
  case rest =>
  obtain ⟨wp, rfl⟩ : ∃ x, x = wc := ⟨_, rfl⟩
  obtain ⟨rfl, hgc⟩ := hcut
  have HGP : Hid (Gr w1 wp) := hgc
  clear hgc p0 p1 p2 plt
  go_wp2
  go_loopw [4, 5] (fun o i wr => ∃ k : Nat, k <= L.length /\ i = .int .i64 k /\ o = .string ⟨(Idn.showT r n (L.take k)).toArray⟩ /\ Gr w1 wr) (fun _ i _ => L.length - (intOf i).toNat)
  case atStart => exact ⟨0, by omega, rfl, by rw [List.take_zero, HT0.out], HGP.out⟩
  case round =>
   obtain ⟨k, hk, rfl, rfl, hg⟩ := hrel
   obtain ⟨p0, p1, p2, _, _, _, plt⟩ := HB.out.gr hg
   have HG : Hid (Gr w1 wr) := hg
   have hgw : Gr w wr := HG1.out.trans hg
   clear hg
   by_cases hlt : k < L.length
   ·obtain ⟨b, off, rfl, hbl, hc, hd⟩ := HL.out k hlt
    have hc' := hgw.keep hc
    have hd' := hgw.keep hd
    obtain ⟨x0, x1, x2, x3⟩ := HA.out L[k] (List.getElem_mem hlt)
    have HT : Hid (Idn.showT r n (L.take (k + 1)) = Idn.showT r n (L.take k) ++ [47] ++ digsT L[k].1 ++ [64] ++ digsT L[k].2) := by
     show _ = _
     unfold Idn.showT
     rw [List.take_succ_eq_append_getElem hlt, List.flatMap_append]
     simp [Idn.hopT, digsT]
    have hsl := show_len r n (L.take k) hr0 hr1 hn0 hn1 (fun x hx => HA.out x (List.mem_of_mem_take hx))
    rw [List.length_take] at hsl
    obtain ⟨⟨y1, y2⟩, hy⟩ : ∃ h, L[k] = h := ⟨_, rfl⟩
    rw [hy] at hc' hd' x0 x1 x2 x3 HT
    simp only at x0 x1 x2 x3 HT
    have l1 : (digsT y1).length <= 6 := digs_len y1.toNat 5 (by omega)
    have l2 : (digsT y2).length <= 6 := digs_len y2.toNat 5 (by omega)
    have a1 := add_lists (Idn.showT r n (L.take k)) [47] (by simp; omega)
    have a2 := add_lists (Idn.showT r n (L.take k) ++ [47]) (digsT y1) (by simp; omega)
    have a3 := add_lists (Idn.showT r n (L.take k) ++ [47] ++ digsT y1) [64] (by simp; omega)
    have a4 := add_lists (Idn.showT r n (L.take k) ++ [47] ++ digsT y1 ++ [64]) (digsT y2) (by simp; omega)
    have hbw : b < wr.heap.size := Nat.lt_of_lt_of_le hbl hgw.size
    have hki : (k : Int) < (L.length : Int) := by omega
    generalize Idn.showT r n (L.take k) ++ [47] ++ digsT y1 ++ [64] ++ digsT y2 = t4 at a4 HT
    generalize Idn.showT r n (L.take k) ++ [47] ++ digsT y1 ++ [64] = t3 at a3 a4
    generalize Idn.showT r n (L.take k) ++ [47] ++ digsT y1 = t2 at a2 a3
    generalize Idn.showT r n (L.take k) ++ [47] = t1 at a1 a2
    generalize Idn.showT r n (L.take k) = st at *
    clear hc hd hy ha1 ha2 hsl
    go_wp2
    go_region_held3 (fun w' => Gr w w' /\ Gr wr w' /\ w'.cell? ⟨w.heap.size, 2, none⟩ = some (.slice (some ⟨b, off, none⟩) L.length cap) /\ w'.cell? ⟨b, off + k * 2, none⟩ = some (.int .i64 y1) /\ w'.cell? ⟨b, off + k * 2 + 1, none⟩ = some (.int .i64 y2))
     ((go_split_ands; exact ⟨(by repeat(first|exact Gr.r _|refine Gr.a ?_|refine Gr.d ?_|refine Gr.t ?_ (by assumption))), (by repeat(first|exact Gr.r _|refine Gr.a ?_|refine Gr.d ?_|refine Gr.t ?_ (by assumption))), Gr.keep (W := wr) (by repeat(first|exact Gr.r _|refine Gr.a ?_|refine Gr.d ?_|refine Gr.t ?_ (by assumption))) p2, Gr.keep (W := wr) (by repeat(first|exact Gr.r _|refine Gr.a ?_|refine Gr.d ?_|refine Gr.t ?_ (by assumption))) hc', Gr.keep (W := wr) (by repeat(first|exact Gr.r _|refine Gr.a ?_|refine Gr.d ?_|refine Gr.t ?_ (by assumption))) hd'⟩))
     ((first | (go_at_call_of 26 (Value.int IntKind.i64 y1); refine (HI.out y1 _ (by omega) (by omega)).mono ?_; rintro e w2 ⟨rfl, hg2⟩) | (go_at_call 26; refine (HI.out y2 _ (by omega) (by omega)).mono ?_; rintro e w3 ⟨rfl, hg3⟩)))
    all_goals go_wp2
    all_goals
     go_roundw
     case rel => exact ⟨k + 1, by omega, by go_num, by rw [HT.out], HG.out.trans (by repeat(first|exact Gr.r _|refine Gr.a ?_|refine Gr.d ?_|refine Gr.t ?_ (by assumption)))⟩
     case measure => simp [intOf]; omega
   ·have HE : Hid (Idn.showT r n (L.take k) = Idn.showT r n L) := by
     show _ = _
     rw [List.take_of_length_le (by omega)]
    have hki : ¬ ((k : Int) < (L.length : Int)) := by omega
    go_wp2
    go_ret2
    exact ⟨Or.inl ⟨HM.out, by rw [<- HE.out]; rfl⟩, hgw⟩
 ·have hm' : Idn.mayB r n L = false := by simpa using hm
  rw [hm', show errB false = 30 from rfl] at HC
  have HM : Hid (Idn.mayB r n L = false) := hm'
  clear hL hm hm'
  go_enter Tryz.func24, Tryz.ntmps24
  go_wp2_with fail
  refine (HC.out _ (by repeat(first|exact Gr.r _|refine Gr.a ?_|refine Gr.d ?_|refine Gr.t ?_ (by assumption)))).mono ?_
  rintro e1 w1 ⟨rfl, hg1⟩
  go_wp2
  go_ret2
  exact ⟨Or.inr ⟨HM.out, rfl⟩, (by repeat(first|exact Gr.r _|refine Gr.a ?_|refine Gr.d ?_|refine Gr.t ?_ (by assumption)))⟩
end Go.Proofs.YthaadiclopoamaaGreatDoor
