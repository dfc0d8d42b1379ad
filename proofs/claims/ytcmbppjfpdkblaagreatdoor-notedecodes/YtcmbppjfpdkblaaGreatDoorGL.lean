/- Parts of these proofs, laid together. -/
import Derived.Test.YtcmbppjfpdkblaaGreatDoorGJ
import Derived.Test.YtcmbppjfpdkblaaGreatDoorGK
import Derived.Test.YtcmbppjfpdkblaaGreatDoorGI
import Derived.Deep.DeepCutAuto
/- The document's digits, numbers, and texts of ids. -/
namespace Go.Proofs.YtcmbppjfpdkblaaGreatDoor
open Go.RowKit

theorem dgs_one (n : Nat) (h : n < 10) : Lib.decDigits n = [UInt8.ofNat (48 + n)] := by rw [Lib.decDigits, dif_pos h]
theorem dgs_snoc (n : Nat) (h : ¬ n < 10) : Lib.decDigits n = Lib.decDigits (n / 10) ++ Lib.decDigits (n % 10) := by
  rw [Lib.decDigits, dif_neg h, dgs_one (n % 10) (by omega)]

set_option maxHeartbeats 1000000 in
theorem digit_any (n : Nat) (w : World) (h : n < 10) : Calls Tryz.prog 30 #[.int .i64 n] w fun e w' => e = .returned (.string ⟨(Lib.decDigits n).toArray⟩) ∧ w' = w := by
  have HD : Hid (Lib.decDigits n = [UInt8.ofNat (48 + n)]) := dgs_one n h
  rcases (by omega : n = 0 ∨ n = 1 ∨ n = 2 ∨ n = 3 ∨ n = 4 ∨ n = 5 ∨ n = 6 ∨ n = 7 ∨ n = 8 ∨ n = 9) with rfl | rfl | rfl | rfl | rfl | rfl | rfl | rfl | rfl | rfl
  all_goals
    go_enter Tryz.func30, Tryz.ntmps30
    go_wp2
    go_ret
    exact ⟨by rw [HD.out]; rfl, rfl⟩

set_option maxHeartbeats 1000000 in
theorem digits_any (n : Nat) (w : World) (h : n ≤ 999999999) : Calls Tryz.prog 30 #[.int .i64 n] w fun e w' => e = .returned (.string ⟨(Lib.decDigits n).toArray⟩) ∧ w' = w := by
  induction n using Nat.strongRecOn with
  | ind n ih =>
    by_cases h9 : n < 10
    · exact digit_any n w h9
    · have H1 : Hid (Calls Tryz.prog 30 #[.int .i64 ((n / 10 : Nat) : Int)] w fun e w' => e = .returned (.string ⟨(Lib.decDigits (n / 10)).toArray⟩) ∧ w' = w) := ih (n / 10) (by omega) (by omega)
      have H2 : Hid (Calls Tryz.prog 30 #[.int .i64 ((n % 10 : Nat) : Int)] w fun e w' => e = .returned (.string ⟨(Lib.decDigits (n % 10)).toArray⟩) ∧ w' = w) := digit_any (n % 10) w (by omega)
      have hl := digs_len (n / 10) 19 (by omega)
      have hl2 := digs_len (n % 10) 0 (by omega)
      have ha := add_lists (Lib.decDigits (n / 10)) (Lib.decDigits (n % 10)) (by omega)
      have HD : Hid (Lib.decDigits n = Lib.decDigits (n / 10) ++ Lib.decDigits (n % 10)) := dgs_snoc n h9
      have e1 : ((n / 10 : Nat) : Int) = (n : Int) / 10 := by omega
      have e2 : ((n % 10 : Nat) : Int) = (n : Int) % 10 := by omega
      rw [e1] at H1
      rw [e2] at H2
      have h9' : ¬ ((n : Int) < 10) := by omega
      generalize Lib.decDigits (n / 10) ++ Lib.decDigits (n % 10) = t2 at *
      generalize Lib.decDigits (n / 10) = t0 at *
      generalize Lib.decDigits (n % 10) = t1 at *
      clear ih hl hl2 e1 e2
      go_enter Tryz.func30, Tryz.ntmps30
      go_wp2_with fail
      refine H1.out.mono ?_
      rintro e w1 ⟨rfl, hw1⟩; obtain rfl := hw1.symm
      go_wp2_with fail
      refine H2.out.mono ?_
      rintro e w1 ⟨rfl, hw1⟩; obtain rfl := hw1.symm
      go_wp2
      go_ret
      exact ⟨by rw [HD.out]; rfl, rfl⟩

theorem numV_lt (ds : List UInt8) (h : ∀ b ∈ ds, isD b = true) : numV ds < 10 ^ ds.length := by
  have key : ∀ k, k ≤ ds.length → numV (ds.take k) < 10 ^ k := by
    intro k
    induction k with
    | zero => intro _; simp [numV]
    | succ k ih =>
      intro hk
      have := ih (by omega)
      have hd := h (ds[k]'(by omega)) (List.getElem_mem _)
      simp only [isD, Bool.and_eq_true, decide_eq_true_eq] at hd
      rw [List.take_succ_eq_append_getElem (by omega), numV_snoc, Nat.pow_succ]
      omega
  have := key ds.length (Nat.le_refl _)
  rwa [List.take_length] at this

set_option maxHeartbeats 4000000 in
set_option maxRecDepth 100000 in
theorem number_read (s : ByteArray) (k : Nat) (w : World) (hs : s.size ≤ 140737488355328) (hk : k ≤ s.size) :
    Calls Tryz.prog 74 #[.string s, .int .i64 k] w fun e w' => e = .returned (.tuple #[.int .i64 (nV s.data.toList k), .int .i64 (nT s.data.toList k : Nat), .bool (nB s.data.toList k)]) ∧ w' = w := by
  have hl : s.data.toList.length = s.size := by simp
  go_enter Tryz.func74, Tryz.ntmps74
  go_wp2
  go_loop [7, 8] (fun n i => ∃ j : Nat, j ≤ 6 ∧ k + j ≤ s.size ∧ i = .int .i64 ((k + j : Nat) : Int) ∧ n = .int .i64 ((numV ((s.data.toList.drop k).take j) : Nat) : Int) ∧ (∀ b ∈ (s.data.toList.drop k).take j, isD b = true)) (fun _ i => s.size - (intOf i).toNat)
  case atStart => exact ⟨0, by omega, by omega, rfl, rfl, by simp⟩
  case round =>
    obtain ⟨j, hj6, hjs, rfl, rfl, hall⟩ := hrel
    have HALL : Hid (∀ b ∈ (s.data.toList.drop k).take j, isD b = true) := hall
    have hlen : ((s.data.toList.drop k).take j).length = j := by rw [List.length_take, List.length_drop, hl]; omega
    have hbd := numV_lt _ hall
    rw [hlen] at hbd
    clear hall
    have HEND : Hid ((∀ h : j < ((s.data.toList.drop k).take 6).length, isD ((s.data.toList.drop k).take 6)[j] = false) → nV s.data.toList k = ((numV ((s.data.toList.drop k).take j) : Nat) : Int) ∧ nT s.data.toList k = k + j ∧ nB s.data.toList k = decide (0 < j)) := by
      intro hstop
      have e : numS s.data.toList k = (s.data.toList.drop k).take j := by
        have hm : ((s.data.toList.drop k).take 6).take j = (s.data.toList.drop k).take j := by rw [List.take_take, Nat.min_eq_left hj6]
        unfold numS
        rw [while_take _ j (by rw [List.length_take, List.length_drop, hl]; omega) (by rw [hm]; exact HALL.out) hstop, hm]
      unfold nV nT nB
      rw [e, hlen]
      exact ⟨rfl, rfl, rfl⟩
    by_cases hlt : k + j < s.size
    · have hlti : ((k + j : Nat) : Int) < (s.size : Int) := by omega
      have h8 : (s[k + j]'hlt).toNat < 256 := (s[k + j]'hlt).toNat_lt
      have hget : ∀ h : j < ((s.data.toList.drop k).take 6).length, ((s.data.toList.drop k).take 6)[j] = s[k + j]'hlt := by
        intro h
        rw [List.getElem_take, List.getElem_drop]; rfl
      by_cases h6 : j < 6
      · have h6i : ((k + j : Nat) : Int) < (k : Int) + 6 := by omega
        have hpow : 10 ^ j ≤ 10 ^ 5 := Nat.pow_le_pow_right (by omega) (by omega)
        have hv5 : numV ((s.data.toList.drop k).take j) < 100000 := by omega
        by_cases hd : isD (s[k + j]'hlt) = true
        · have hd' := hd
          simp only [isD, Bool.and_eq_true, decide_eq_true_eq] at hd'
          have HN : Hid (((numV ((s.data.toList.drop k).take (j + 1)) : Nat) : Int) = 10 * ((numV ((s.data.toList.drop k).take j) : Nat) : Int) + (((s[k + j]'hlt).toNat : Int) - 48)) := by
            show _ = _
            rw [List.take_succ_eq_append_getElem (by rw [List.length_drop, hl]; omega), numV_snoc, List.getElem_drop]
            have e3 : (s.data.toList[k + j]'(by rw [hl]; exact hlt)) = s[k + j]'hlt := rfl
            rw [e3]; omega
          have HA : Hid (∀ b ∈ (s.data.toList.drop k).take (j + 1), isD b = true) := by
            intro b hb
            rw [List.take_succ_eq_append_getElem (by rw [List.length_drop, hl]; omega)] at hb
            rcases List.mem_append.1 hb with hb | hb
            · exact HALL.out b hb
            · rw [List.mem_singleton, List.getElem_drop] at hb
              rw [hb]; exact hd
          obtain ⟨hd1, hd2⟩ := hd'
          have hd1' : (48 : Int) ≤ ((s[k + j]'hlt).toNat : Int) := by omega
          have hd2' : ((s[k + j]'hlt).toNat : Int) ≤ 57 := by omega
          generalize numV ((s.data.toList.drop k).take j) = v at *
          clear hbd hpow hget hd HEND
          go_wp2
          go_round
          case rel => exact ⟨j + 1, by omega, by omega, by congr 1, by rw [HN.out], HA.out⟩
          case measure => simp [intOf]; omega
        · have hdf : isD (s[k + j]'hlt) = false := by simpa using hd
          have HE : Hid (nV s.data.toList k = ((numV ((s.data.toList.drop k).take j) : Nat) : Int) ∧ nT s.data.toList k = k + j ∧ nB s.data.toList k = decide (0 < j)) := HEND.out (fun h => by rw [hget h]; exact hdf)
          simp only [isD, Bool.and_eq_false_iff, decide_eq_false_iff_not] at hdf
          generalize numV ((s.data.toList.drop k).take j) = v at *
          clear hbd hpow hget hd HEND
          by_cases g1 : (48 : Int) ≤ ((s[k + j]'hlt).toNat : Int)
          · have g2 : ¬ (((s[k + j]'hlt).toNat : Int) ≤ 57) := by omega
            clear hdf
            go_wp2
            go_ret3
            exact ⟨by rw [HE.out.1, HE.out.2.1, HE.out.2.2]; simp; omega, rfl⟩
          · clear hdf
            go_wp2
            go_ret3
            exact ⟨by rw [HE.out.1, HE.out.2.1, HE.out.2.2]; simp; omega, rfl⟩
      · have HE : Hid (nV s.data.toList k = ((numV ((s.data.toList.drop k).take j) : Nat) : Int) ∧ nT s.data.toList k = k + j ∧ nB s.data.toList k = decide (0 < j)) := HEND.out (fun h => by rw [List.length_take] at h; omega)
        have h6i : ¬ (((k + j : Nat) : Int) < (k : Int) + 6) := by omega
        generalize numV ((s.data.toList.drop k).take j) = v at *
        clear hbd hget HEND
        go_wp2
        go_ret3
        exact ⟨by rw [HE.out.1, HE.out.2.1, HE.out.2.2]; simp; omega, rfl⟩
    · have HE : Hid (nV s.data.toList k = ((numV ((s.data.toList.drop k).take j) : Nat) : Int) ∧ nT s.data.toList k = k + j ∧ nB s.data.toList k = decide (0 < j)) := HEND.out (fun h => by rw [List.length_take, List.length_drop, hl] at h; omega)
      have hlti : ¬ (((k + j : Nat) : Int) < (s.size : Int)) := by omega
      generalize numV ((s.data.toList.drop k).take j) = v at *
      clear hbd HEND
      go_wp2
      go_ret3
      exact ⟨by rw [HE.out.1, HE.out.2.1, HE.out.2.2]; simp; omega, rfl⟩
end Go.Proofs.YtcmbppjfpdkblaaGreatDoor
/- The document's Show. -/
namespace Go.Proofs.YtcmbppjfpdkblaaGreatDoor
open Go.RowKit

set_option maxHeartbeats 8000000 in
set_option maxRecDepth 100000 in
theorem refShow_any (r n : Int) (L : List (Int × Int)) (ad : Option Addr) (cap : Nat) (w : World) (hL : HopsAt w ad L) (hn : L.length ≤ 9223372036854775807) :
    Calls Tryz.prog 29 #[.agg #[.int .i64 r, .int .i64 n, .slice ad L.length cap]] w fun e w' =>
      ((Idn.mayB r n L = true ∧ e = .returned (.tuple #[.string ⟨(Idn.showT r n L).toArray⟩, .int .i64 0])) ∨ (Idn.mayB r n L = false ∧ e = .returned (.tuple #[.string ⟨#[]⟩, .int .i64 30]))) ∧ Gr w w' := by
  have HC : Hid (∀ w', Gr w w' → Calls Tryz.prog 35 #[.agg #[.int .i64 r, .int .i64 n, .slice ad L.length cap]] w' fun e w2 => e = .returned (.int .i64 (errB (Idn.mayB r n L))) ∧ Gr w' w2) := fun w' g => refCheck_any r n L ad cap w' (hL.gr g) hn
  by_cases hm : Idn.mayB r n L = true
  · obtain ⟨hr0, hr1, hn0, hn1, h4, hall⟩ := may_root hm
    have HI : Hid (∀ (x : Int) (w' : World), 0 ≤ x → x ≤ 999999 → Calls Tryz.prog 30 #[.int .i64 x] w' fun e w2 => e = .returned (.string ⟨(digsT x).toArray⟩) ∧ Gr w' w2) := by
      intro x w' h0 h1
      have := digits_any x.toNat w' (by omega)
      rw [show ((x.toNat : Nat) : Int) = x by omega] at this
      refine this.mono ?_
      rintro e w2 ⟨rfl, rfl⟩
      exact ⟨rfl, Gr.refl _⟩
    have hlr : (digsT r).length ≤ 6 := digs_len r.toNat 5 (by omega)
    have hln : (digsT n).length ≤ 6 := digs_len n.toNat 5 (by omega)
    have ha1 := add_lists (digsT r) [46] (by simp; omega)
    have ha2 := add_lists (digsT r ++ [46]) (digsT n) (by simp; omega)
    have HT0 : Hid (Idn.showT r n [] = digsT r ++ [46] ++ digsT n) := by show _ = _; simp [Idn.showT, digsT]
    generalize digsT r ++ [46] ++ digsT n = u2 at ha2 HT0
    generalize digsT r ++ [46] = u1 at ha1 ha2
    rw [hm, show errB true = 0 from rfl] at HC
    have HM : Hid (Idn.mayB r n L = true) := hm
    have HL : Hid (HopsAt w ad L) := hL
    have HA : Hid (∀ x ∈ L, 0 ≤ x.1 ∧ x.1 < 8 ∧ 0 ≤ x.2 ∧ x.2 < 16) := hall
    clear hL hm hall
    go_enter Tryz.func29, Tryz.ntmps29
    go_wp2_with fail
    refine (HC.out _ (by repeat (first | exact Gr.refl _ | refine Gr.alloc ?_ | refine Gr.drew ?_ | refine Gr.trans ?_ (by assumption)))).mono ?_
    rintro e1 w1 ⟨rfl, hg1⟩
    have HB : Hid (BoxAt w1 w.heap.size (.int .i64 r) (.int .i64 n) (.slice ad L.length cap)) := (BoxAt.new w _ _ _ 24 _ rfl).gr hg1
    have HG1 : Hid (Gr w w1) := (by repeat (first | exact Gr.refl _ | refine Gr.alloc ?_ | refine Gr.drew ?_ | refine Gr.trans ?_ (by assumption)))
    clear hg1
    obtain ⟨p0, p1, p2, _, _, _, plt⟩ := HB.out
    go_upto_region 3 with fail
    go_cut [4] (fun s4 wx => s4 = .string ⟨u2.toArray⟩ ∧ Gr w1 wx)
    case first =>
      have g0 := HG1.out
      go_region_held3 (fun w' => Gr w w' ∧ Gr w1 w' ∧ w'.cell? ⟨w.heap.size, 0, none⟩ = some (.int .i64 r) ∧ w'.cell? ⟨w.heap.size, 1, none⟩ = some (.int .i64 n))
        ((go_split_ands; exact ⟨(by repeat (first | exact Gr.refl _ | refine Gr.alloc ?_ | refine Gr.drew ?_ | refine Gr.trans ?_ (by assumption))), (by repeat (first | exact Gr.refl _ | refine Gr.alloc ?_ | refine Gr.drew ?_ | refine Gr.trans ?_ (by assumption))), Gr.keep (W := w1) (by repeat (first | exact Gr.refl _ | refine Gr.alloc ?_ | refine Gr.drew ?_ | refine Gr.trans ?_ (by assumption))) p0, Gr.keep (W := w1) (by repeat (first | exact Gr.refl _ | refine Gr.alloc ?_ | refine Gr.drew ?_ | refine Gr.trans ?_ (by assumption))) p1⟩))
        ((first | (go_at_call_of 30 (Value.int IntKind.i64 r); refine (HI.out r _ (by omega) (by omega)).mono ?_; rintro e w2 ⟨rfl, hg2⟩) | (go_at_call 30; refine (HI.out n _ (by omega) (by omega)).mono ?_; rintro e w3 ⟨rfl, hg3⟩)))
      all_goals (go_wp2_with fail; go_meet; exact ⟨rfl, (by repeat (first | exact Gr.refl _ | refine Gr.alloc ?_ | refine Gr.drew ?_ | refine Gr.trans ?_ (by assumption)))⟩)
    case rest =>
    obtain ⟨wp, rfl⟩ : ∃ x, x = wc := ⟨_, rfl⟩
    obtain ⟨rfl, hgc⟩ := hcut
    have HGP : Hid (Gr w1 wp) := hgc
    clear hgc p0 p1 p2 plt
    go_wp2
    go_loopw [4, 5] (fun o i wr => ∃ k : Nat, k ≤ L.length ∧ i = .int .i64 k ∧ o = .string ⟨(Idn.showT r n (L.take k)).toArray⟩ ∧ Gr w1 wr) (fun _ i _ => L.length - (intOf i).toNat)
    case atStart => exact ⟨0, by omega, rfl, by rw [List.take_zero, HT0.out], HGP.out⟩
    case round =>
      obtain ⟨k, hk, rfl, rfl, hg⟩ := hrel
      obtain ⟨p0, p1, p2, _, _, _, plt⟩ := HB.out.gr hg
      have HG : Hid (Gr w1 wr) := hg
      have hgw : Gr w wr := HG1.out.trans hg
      clear hg
      by_cases hlt : k < L.length
      · obtain ⟨b, off, rfl, hbl, hc, hd⟩ := HL.out k hlt
        have hc' := hgw.keep hc
        have hd' := hgw.keep hd
        obtain ⟨x0, x1, x2, x3⟩ := HA.out L[k] (List.getElem_mem hlt)
        have HT : Hid (Idn.showT r n (L.take (k + 1)) = Idn.showT r n (L.take k) ++ [47] ++ digsT L[k].1 ++ [64] ++ digsT L[k].2) := by
          show _ = _
          unfold Idn.showT
          rw [List.take_succ_eq_append_getElem hlt, List.flatMap_append]
          simp [Idn.hopT, digsT]
        have hsl := show_len r n (L.take k) hr0 hr1 hn0 hn1 (fun x hx => HA.out x (List.mem_of_mem_take hx))
        rw [List.length_take] at hsl
        obtain ⟨⟨y1, y2⟩, hy⟩ : ∃ h, L[k] = h := ⟨_, rfl⟩
        rw [hy] at hc' hd' x0 x1 x2 x3 HT
        simp only at x0 x1 x2 x3 HT
        have l1 : (digsT y1).length ≤ 6 := digs_len y1.toNat 5 (by omega)
        have l2 : (digsT y2).length ≤ 6 := digs_len y2.toNat 5 (by omega)
        have a1 := add_lists (Idn.showT r n (L.take k)) [47] (by simp; omega)
        have a2 := add_lists (Idn.showT r n (L.take k) ++ [47]) (digsT y1) (by simp; omega)
        have a3 := add_lists (Idn.showT r n (L.take k) ++ [47] ++ digsT y1) [64] (by simp; omega)
        have a4 := add_lists (Idn.showT r n (L.take k) ++ [47] ++ digsT y1 ++ [64]) (digsT y2) (by simp; omega)
        have hbw : b < wr.heap.size := Nat.lt_of_lt_of_le hbl hgw.size
        have hki : (k : Int) < (L.length : Int) := by omega
        generalize Idn.showT r n (L.take k) ++ [47] ++ digsT y1 ++ [64] ++ digsT y2 = t4 at a4 HT
        generalize Idn.showT r n (L.take k) ++ [47] ++ digsT y1 ++ [64] = t3 at a3 a4
        generalize Idn.showT r n (L.take k) ++ [47] ++ digsT y1 = t2 at a2 a3
        generalize Idn.showT r n (L.take k) ++ [47] = t1 at a1 a2
        generalize Idn.showT r n (L.take k) = st at *
        clear hc hd hy ha1 ha2 hsl
        go_wp2
        go_region_held3 (fun w' => Gr w w' ∧ Gr wr w' ∧ w'.cell? ⟨w.heap.size, 2, none⟩ = some (.slice (some ⟨b, off, none⟩) L.length cap) ∧ w'.cell? ⟨b, off + k * 2, none⟩ = some (.int .i64 y1) ∧ w'.cell? ⟨b, off + k * 2 + 1, none⟩ = some (.int .i64 y2))
          ((go_split_ands; exact ⟨(by repeat (first | exact Gr.refl _ | refine Gr.alloc ?_ | refine Gr.drew ?_ | refine Gr.trans ?_ (by assumption))), (by repeat (first | exact Gr.refl _ | refine Gr.alloc ?_ | refine Gr.drew ?_ | refine Gr.trans ?_ (by assumption))), Gr.keep (W := wr) (by repeat (first | exact Gr.refl _ | refine Gr.alloc ?_ | refine Gr.drew ?_ | refine Gr.trans ?_ (by assumption))) p2, Gr.keep (W := wr) (by repeat (first | exact Gr.refl _ | refine Gr.alloc ?_ | refine Gr.drew ?_ | refine Gr.trans ?_ (by assumption))) hc', Gr.keep (W := wr) (by repeat (first | exact Gr.refl _ | refine Gr.alloc ?_ | refine Gr.drew ?_ | refine Gr.trans ?_ (by assumption))) hd'⟩))
          ((first | (go_at_call_of 30 (Value.int IntKind.i64 y1); refine (HI.out y1 _ (by omega) (by omega)).mono ?_; rintro e w2 ⟨rfl, hg2⟩) | (go_at_call 30; refine (HI.out y2 _ (by omega) (by omega)).mono ?_; rintro e w3 ⟨rfl, hg3⟩)))
        all_goals go_wp2
        all_goals
          go_roundw
          case rel => exact ⟨k + 1, by omega, by go_num, by rw [HT.out], HG.out.trans (by repeat (first | exact Gr.refl _ | refine Gr.alloc ?_ | refine Gr.drew ?_ | refine Gr.trans ?_ (by assumption)))⟩
          case measure => simp [intOf]; omega
      · have HE : Hid (Idn.showT r n (L.take k) = Idn.showT r n L) := by
          show _ = _
          rw [List.take_of_length_le (by omega)]
        have hki : ¬ ((k : Int) < (L.length : Int)) := by omega
        go_wp2
        go_ret2
        exact ⟨Or.inl ⟨HM.out, by rw [← HE.out]; rfl⟩, hgw⟩
  · have hm' : Idn.mayB r n L = false := by simpa using hm
    rw [hm', show errB false = 30 from rfl] at HC
    have HM : Hid (Idn.mayB r n L = false) := hm'
    clear hL hm hm'
    go_enter Tryz.func29, Tryz.ntmps29
    go_wp2_with fail
    refine (HC.out _ (by repeat (first | exact Gr.refl _ | refine Gr.alloc ?_ | refine Gr.drew ?_ | refine Gr.trans ?_ (by assumption)))).mono ?_
    rintro e1 w1 ⟨rfl, hg1⟩
    go_wp2
    go_ret2
    exact ⟨Or.inr ⟨HM.out, rfl⟩, (by repeat (first | exact Gr.refl _ | refine Gr.alloc ?_ | refine Gr.drew ?_ | refine Gr.trans ?_ (by assumption)))⟩
end Go.Proofs.YtcmbppjfpdkblaaGreatDoor
/- The document's Parse. -/
namespace Go.Proofs.YtcmbppjfpdkblaaGreatDoor
open Go.RowKit

theorem toList_dat3 (s : ByteArray) : s.toList = s.data.toList := ByteArray.toList_eq s
theorem loop_stop (l : List UInt8) (f k : Nat) (ok : Bool) (hs : List (Int × Int)) (h : f = 0 ∨ ¬ (ok = true ∧ k < l.length)) : loopR l f k ok hs = some (hs, ok) := by
  cases f with
  | zero => rfl
  | succ f =>
    rcases h with h | h
    · omega
    · rw [loopR, if_neg h]
theorem refI_none (l : List UInt8) (h : nB l 0 = false ∨ nT l 0 = l.length) : refP l = none := by
  unfold refP refI; rw [if_pos h]
def ansR (l : List UInt8) (r n : Int) : Option (List (Int × Int) × Bool) → Option (Int × Int × List (Int × Int))
  | none => none
  | some (hs, ok) => if goodB l (r, n, hs, ok) = true then some (r, n, hs) else none
theorem refI_some (l : List UInt8) (h : ¬ (nB l 0 = false ∨ nT l 0 = l.length)) :
    refP l = ansR l (nV l 0) (nV l (nT l 0 + 1)) (loopR l 5 (nT l (nT l 0 + 1)) (nB l (nT l 0 + 1)) []) := by
  unfold refP refI
  rw [if_neg h]
  cases loopR l 5 (nT l (nT l 0 + 1)) (nB l (nT l 0 + 1)) [] with
  | none => rfl
  | some p => obtain ⟨hs, ok⟩ := p; rfl
theorem loop_none (l : List UInt8) (f k : Nat) (hs : List (Int × Int)) (hk : k < l.length) (h : nB l (k + 1) = false ∨ nT l (k + 1) = l.length) : loopR l (f + 1) k true hs = none := by
  rw [loopR, if_pos ⟨rfl, hk⟩, if_pos h]
theorem loop_next (l : List UInt8) (f k : Nat) (hs : List (Int × Int)) (hk : k < l.length) (h : ¬ (nB l (k + 1) = false ∨ nT l (k + 1) = l.length)) :
    loopR l (f + 1) k true hs = loopR l f (nT l (nT l (k + 1) + 1)) (nB l (nT l (k + 1) + 1)) (hs ++ [(nV l (k + 1), nV l (nT l (k + 1) + 1))]) := by
  rw [loopR, if_pos ⟨rfl, hk⟩, if_neg h]

set_option maxHeartbeats 20000000 in
set_option maxRecDepth 100000 in
theorem refParse_new (s : ByteArray) (w : World) (hs : s.size ≤ 140737488355328) :
    Calls Tryz.prog 52 #[.string s] w fun e w' =>
      ((∃ r n L ad2 cap2, refP s.data.toList = some (r, n, L) ∧ e = .returned (.tuple #[.agg #[.int .i64 r, .int .i64 n, .slice ad2 L.length cap2], .int .i64 0]) ∧ HopsAt w' ad2 L ∧ ∀ a, ad2 = some a → w.heap.size ≤ a.block) ∨
       (refP s.data.toList = none ∧ e = .returned (.tuple #[.agg #[.int .i64 0, .int .i64 0, .slice none 0 0], .int .i64 30]))) ∧ Gr w w' := by
  obtain ⟨i0, hi, hz0, hz1, hz2⟩ := info_parts infoHop
  have hl : s.data.toList.length = s.size := by simp
  have HN0 : Hid (∀ (w' : World), Calls Tryz.prog 74 #[.string s, .int .i64 0] w' fun e w2 => e = .returned (.tuple #[.int .i64 (nV s.data.toList 0), .int .i64 (nT s.data.toList 0 : Nat), .bool (nB s.data.toList 0)]) ∧ w2 = w') := fun w' => number_read s 0 w' hs (by omega)
  have HN : Hid (∀ (k : Nat) (w' : World), k < s.size → Calls Tryz.prog 74 #[.string s, .int .i64 ((k : Int) + 1)] w' fun e w2 => e = .returned (.tuple #[.int .i64 (nV s.data.toList (k + 1)), .int .i64 (nT s.data.toList (k + 1) : Nat), .bool (nB s.data.toList (k + 1))]) ∧ w2 = w') := by
    intro k w' h
    have := number_read s (k + 1) w' hs (by omega)
    rw [Int.natCast_add] at this
    exact this
  have HT : Hid (∀ k, k ≤ s.size → nT s.data.toList k ≤ s.size) := by
    intro k h
    have := nT_le s.data.toList k (by omega)
    omega
  have HSH : Hid (∀ (r n : Int) (L : List (Int × Int)) (ad : Option Addr) (cap : Nat) (w' : World), L.length ≤ 5 → HopsAt w' ad L → Calls Tryz.prog 29 #[.agg #[.int .i64 r, .int .i64 n, .slice ad L.length cap]] w' fun e w2 =>
      ((Idn.mayB r n L = true ∧ e = .returned (.tuple #[.string ⟨(Idn.showT r n L).toArray⟩, .int .i64 0])) ∨ (Idn.mayB r n L = false ∧ e = .returned (.tuple #[.string ⟨#[]⟩, .int .i64 30]))) ∧ Gr w' w2) := fun r n L ad cap w' h5 h => refShow_any r n L ad cap w' h (by omega)
  have HZ : Hid ((nB s.data.toList 0 = false ∨ nT s.data.toList 0 = s.size) → refP s.data.toList = none) := fun h => refI_none _ (by rw [hl]; exact h)
  have HS : Hid (¬ (nB s.data.toList 0 = false ∨ nT s.data.toList 0 = s.size) → refP s.data.toList = ansR s.data.toList (nV s.data.toList 0) (nV s.data.toList (nT s.data.toList 0 + 1)) (loopR s.data.toList 5 (nT s.data.toList (nT s.data.toList 0 + 1)) (nB s.data.toList (nT s.data.toList 0 + 1)) [])) := fun h => refI_some _ (by rw [hl]; exact h)
  have ht0 := HT.out 0 (by omega)
  by_cases hbad : nB s.data.toList 0 = false ∨ nT s.data.toList 0 = s.size
  · have HR : Hid (refP s.data.toList = none) := HZ.out hbad
    have hcase : nB s.data.toList 0 = false ∨ (nB s.data.toList 0 = true ∧ ((nT s.data.toList 0 : Nat) : Int) = (s.size : Int)) := by
      cases h : nB s.data.toList 0 with
      | false => left; rfl
      | true => right; rw [h] at hbad; simp at hbad; exact ⟨rfl, by omega⟩
    generalize nB s.data.toList 0 = b0 at *
    generalize nT s.data.toList 0 = t0 at *
    generalize nV s.data.toList 0 = v0 at *
    clear hbad HZ HS HT HSH HN hi hz0 hz1 hz2
    rcases hcase with rfl | ⟨rfl, he⟩
    · go_enter Tryz.func52, Tryz.ntmps52
      go_wp2_with fail
      refine (HN0.out _).mono ?_
      rintro e1 w1 ⟨rfl, hw1⟩; obtain rfl := hw1.symm
      go_wp2
      exact bodyPost_ret (v := .tuple #[.agg #[.int .i64 0, .int .i64 0, .slice none 0 0], .int .i64 30]) (by simp [results, Tryz.results52, go_sem]) rfl ⟨Or.inr ⟨HR.out, rfl⟩, (by (repeat' (first | with_reducible exact Gr.refl _ | with_reducible refine Gr.set ?_ _ ?_ _ | with_reducible refine Gr.alloc ?_ | with_reducible refine Gr.drew ?_ | with_reducible refine Gr.trans ?_ (by assumption))) <;> (first | (simp; done) | (simp; omega) | omega))⟩
    · have he' : (((t0 : Nat) : Int) == (s.size : Int)) = true := by simpa using he
      clear he
      go_enter Tryz.func52, Tryz.ntmps52
      go_wp2_with fail
      refine (HN0.out _).mono ?_
      rintro e1 w1 ⟨rfl, hw1⟩; obtain rfl := hw1.symm
      go_wp2
      exact bodyPost_ret (v := .tuple #[.agg #[.int .i64 0, .int .i64 0, .slice none 0 0], .int .i64 30]) (by simp [results, Tryz.results52, go_sem]) rfl ⟨Or.inr ⟨HR.out, rfl⟩, (by (repeat' (first | with_reducible exact Gr.refl _ | with_reducible refine Gr.set ?_ _ ?_ _ | with_reducible refine Gr.alloc ?_ | with_reducible refine Gr.drew ?_ | with_reducible refine Gr.trans ?_ (by assumption))) <;> (first | (simp; done) | (simp; omega) | omega))⟩
  · have hS := HS.out hbad
    have hb0 : nB s.data.toList 0 = true := by
      cases h : nB s.data.toList 0 with
      | false => exact absurd (Or.inl h) hbad
      | true => rfl
    have hne0 : nT s.data.toList 0 ≠ s.size := fun e => hbad (Or.inr e)
    have hlt0 : nT s.data.toList 0 < s.size := by omega
    have hne0' : (((nT s.data.toList 0 : Nat) : Int) == (s.size : Int)) = false := by rw [beq_eq_false_iff_ne]; omega
    have HS1 : Hid (refP s.data.toList = ansR s.data.toList (nV s.data.toList 0) (nV s.data.toList (nT s.data.toList 0 + 1)) (loopR s.data.toList 5 (nT s.data.toList (nT s.data.toList 0 + 1)) (nB s.data.toList (nT s.data.toList 0 + 1)) [])) := hS
    have HN1 : Hid (∀ w', Calls Tryz.prog 74 #[.string s, .int .i64 (((nT s.data.toList 0 : Nat) : Int) + 1)] w' fun e w2 => e = .returned (.tuple #[.int .i64 (nV s.data.toList (nT s.data.toList 0 + 1)), .int .i64 (nT s.data.toList (nT s.data.toList 0 + 1) : Nat), .bool (nB s.data.toList (nT s.data.toList 0 + 1))]) ∧ w2 = w') := fun w' => HN.out _ w' hlt0
    have ht1 := HT.out (nT s.data.toList 0 + 1) (by omega)
    rw [hb0] at HN0
    clear hS hbad HZ HS hb0 hne0
    generalize nT s.data.toList (nT s.data.toList 0 + 1) = t1 at *
    generalize nB s.data.toList (nT s.data.toList 0 + 1) = b1 at *
    generalize nV s.data.toList (nT s.data.toList 0 + 1) = n at *
    generalize nV s.data.toList 0 = r at *
    generalize nT s.data.toList 0 = t0 at *
    go_enter Tryz.func52, Tryz.ntmps52
    go_wp2_with fail
    refine (HN0.out _).mono ?_
    rintro e1 w1 ⟨rfl, hw1⟩; obtain rfl := hw1.symm
    go_wp2_with fail
    refine (HN1.out _).mono ?_
    rintro e2 w2 ⟨rfl, hw2⟩; obtain rfl := hw2.symm
    clear HN0 HN1
    go_wp2
    go_loopw [6, 7] (fun q f wr => ∃ (L : List (Int × Int)) (k : Nat) (ok : Bool) (ad : Option Addr) (cap : Nat), L.length ≤ 5 ∧ q = .int .i64 k ∧ f = .bool ok ∧ k ≤ s.size ∧ BoxAt wr w.heap.size (.int .i64 0) (.int .i64 0) (.slice none 0 0) ∧ BoxAt wr (w.heap.size + 1) (.int .i64 r) (.int .i64 n) (.slice ad L.length cap) ∧ wr.ownsRow (w.heap.size + 1 + 1) 56 2 (.slice ad L.length cap) L.length (hopV L) ∧ loopR s.data.toList 5 t1 b1 [] = loopR s.data.toList (5 - L.length) k ok L ∧ Gr w wr)
      (fun _ _ wr => 5 - lenCell (wr.cell? ⟨w.heap.size + 1, 2, none⟩))
    case atStart => exact ⟨[], t1, b1, none, 0, by simp, rfl, rfl, ht1, (BoxAt.new w _ _ _ _ _ rfl).gr (Gr.refl _).alloc, BoxAt.new _ _ _ _ _ _ (by simp), World.ownsRow_nil _ _ _ _, rfl, (by repeat (first | exact Gr.refl _ | refine Gr.alloc ?_ | refine Gr.drew ?_ | refine Gr.trans ?_ (by assumption)))⟩
    case round =>
      obtain ⟨L, k, ok, ad, cap, hl5, rfl, rfl, hks, hbx, hby, hown, hrd, hg⟩ := hrel
      have HRD : Hid (loopR s.data.toList 5 t1 b1 [] = loopR s.data.toList (5 - L.length) k ok L) := hrd
      have HBX : Hid (BoxAt wr w.heap.size (.int .i64 0) (.int .i64 0) (.slice none 0 0)) := hbx
      have HBY : Hid (BoxAt wr (w.heap.size + 1) (.int .i64 r) (.int .i64 n) (.slice ad L.length cap)) := hby
      obtain ⟨y0, y1, y2, g0, g1, g2, ylt⟩ := hby
      have hlc : lenCell (wr.cell? ⟨w.heap.size + 1, 2, none⟩) = L.length := by rw [y2]; rfl
      have HG : Hid (Gr w wr) := hg
      clear hrd hbx hg
      by_cases hgo : ok = true ∧ k < s.size ∧ L.length < 5
      · obtain ⟨rfl, hklt, h5⟩ := hgo
        have h5i : (L.length : Int) < 5 := by omega
        have hki : (k : Int) < (s.size : Int) := by omega
        have HNk : Hid (∀ w', Calls Tryz.prog 74 #[.string s, .int .i64 ((k : Int) + 1)] w' fun e w2 => e = .returned (.tuple #[.int .i64 (nV s.data.toList (k + 1)), .int .i64 (nT s.data.toList (k + 1) : Nat), .bool (nB s.data.toList (k + 1))]) ∧ w2 = w') := fun w' => HN.out k w' hklt
        have ht2 := HT.out (k + 1) (by omega)
        obtain ⟨xx0, xx1, xx2, f0, f1, f2, xlt⟩ := HBX.out
        by_cases hbad : nB s.data.toList (k + 1) = false ∨ nT s.data.toList (k + 1) = s.size
        · have HR : Hid (refP s.data.toList = none) := by
            show _ = _
            rw [HS1.out, HRD.out, show 5 - L.length = (5 - (L.length + 1)) + 1 by omega, loop_none _ _ _ _ (by omega) (by rw [hl]; exact hbad)]; rfl
          have hcase : nB s.data.toList (k + 1) = false ∨ (nB s.data.toList (k + 1) = true ∧ (((nT s.data.toList (k + 1) : Nat) : Int) == (s.size : Int)) = true) := by
            cases h : nB s.data.toList (k + 1) with
            | false => left; rfl
            | true => right; rw [h] at hbad; simp at hbad; exact ⟨rfl, by rw [hbad]; simp⟩
          generalize nB s.data.toList (k + 1) = b2 at *
          generalize nT s.data.toList (k + 1) = t2 at *
          generalize nV s.data.toList (k + 1) = v2 at *
          clear hown hbad
          rcases hcase with rfl | ⟨rfl, he'⟩
          all_goals
            go_wp2_with fail
            refine (HNk.out _).mono ?_
            rintro e3 w3 ⟨rfl, hw3⟩; obtain rfl := hw3.symm
            go_wp2
            have hg := HG.out
            exact bodyPost_ret (v := .tuple #[.agg #[.int .i64 0, .int .i64 0, .slice none 0 0], .int .i64 30]) (by simp [results, Tryz.results52, go_sem, xx0, xx1, xx2]) rfl ⟨Or.inr ⟨HR.out, rfl⟩, (by (repeat' (first | with_reducible exact Gr.refl _ | with_reducible refine Gr.set ?_ _ ?_ _ | with_reducible refine Gr.alloc ?_ | with_reducible refine Gr.drew ?_ | with_reducible refine Gr.trans ?_ (by assumption))) <;> (first | (simp; done) | (simp; omega) | omega))⟩
        · have HRD2 : Hid (loopR s.data.toList 5 t1 b1 [] = loopR s.data.toList (5 - (L.length + 1)) (nT s.data.toList (nT s.data.toList (k + 1) + 1)) (nB s.data.toList (nT s.data.toList (k + 1) + 1)) (L ++ [(nV s.data.toList (k + 1), nV s.data.toList (nT s.data.toList (k + 1) + 1))])) := by
            show _ = _
            rw [HRD.out, show 5 - L.length = (5 - (L.length + 1)) + 1 by omega, loop_next _ _ _ _ (by omega) (by rw [hl]; exact hbad)]
          have hb2 : nB s.data.toList (k + 1) = true := by
            cases h : nB s.data.toList (k + 1) with
            | false => exact absurd (Or.inl h) hbad
            | true => rfl
          have hne2 : nT s.data.toList (k + 1) ≠ s.size := fun e => hbad (Or.inr e)
          have hlt2 : nT s.data.toList (k + 1) < s.size := by omega
          have hne2' : (((nT s.data.toList (k + 1) : Nat) : Int) == (s.size : Int)) = false := by rw [beq_eq_false_iff_ne]; omega
          have HN2 : Hid (∀ w', Calls Tryz.prog 74 #[.string s, .int .i64 (((nT s.data.toList (k + 1) : Nat) : Int) + 1)] w' fun e w2 => e = .returned (.tuple #[.int .i64 (nV s.data.toList (nT s.data.toList (k + 1) + 1)), .int .i64 (nT s.data.toList (nT s.data.toList (k + 1) + 1) : Nat), .bool (nB s.data.toList (nT s.data.toList (k + 1) + 1))]) ∧ w2 = w') := fun w' => HN.out _ w' hlt2
          have ht3 := HT.out (nT s.data.toList (k + 1) + 1) (by omega)
          rw [hb2] at HNk
          clear hb2 hne2 hbad HRD
          generalize nT s.data.toList (nT s.data.toList (k + 1) + 1) = t3 at *
          generalize nB s.data.toList (nT s.data.toList (k + 1) + 1) = b3 at *
          generalize nV s.data.toList (nT s.data.toList (k + 1) + 1) = x2 at *
          generalize nV s.data.toList (k + 1) = x1 at *
          generalize nT s.data.toList (k + 1) = t2 at *
          go_wp2_with fail
          refine (HNk.out _).mono ?_
          rintro e3 w3 ⟨rfl, hw3⟩; obtain rfl := hw3.symm
          go_wp2_with fail
          refine (HN2.out _).mono ?_
          rintro e4 w4 ⟨rfl, hw4⟩; obtain rfl := hw4.symm
          have hm1 : L.length + 1 ≤ maxLen := by unfold maxLen; omega
          have hw5 : w.heap.size + 1 + 1 ≤ wr.heap.size := by omega
          have hnews : ∀ j u, (hopV [(x1, x2)])[j]? = some u → (wr.alloc (.cells #[.int .i64 x1, .int .i64 x2] 56)).cell? ((⟨wr.heap.size, 0, none⟩ : Addr).add j) = some u := (hops_lit1' wr x1 x2 56).news
          have HNW : Hid (∀ j u, (hopV [(x1, x2)])[j]? = some u → (wr.alloc (.cells #[.int .i64 x1, .int .i64 x2] 56)).cell? ((⟨wr.heap.size, 0, none⟩ : Addr).add j) = some u) := hnews
          clear hnews HNk HN2
          go_wp2_with (first
            | (at_builtin; refine wpList_append_own _ rfl _ _ 22 rfl (w.heap.size + 1 + 1) 56 i0 (.agg #[.int .i64 0, .int .i64 0]) 2 16 Tryz.underlying22 hi hz0 hz1 hz2 rfl (by decide) _ _ _ rfl (hown.alloc _) ⟨wr.heap.size, 0, none⟩ 1 1 (hopV [(x1, x2)]) rfl rfl HNW.out (hopV_one _) hm1 (by omega) (by simp; omega) ?_)
            | fail)
          intro v' w5 hown5 hgrow _
          have hb5 : Below (w.heap.size + 1 + 1) (wr.alloc (.cells #[.int .i64 x1, .int .i64 x2] 56)) w5 := (Below.refl _ _).grown hgrow (by simp; omega) (fun k hk => (hown.lt k hk).1)
          have key : ∀ {u : Value}, w5.ownsRow (w.heap.size + 1 + 1) 56 2 u (L.length + 1) (hopV L ++ hopV [(x1, x2)]) → ∃ ad2 cap2, u = .slice ad2 (L.length + 1) cap2 := by
            intro u hu
            rw [← hopV_app] at hu
            obtain ⟨ad2, cap2, h, _⟩ := own_hops (L := L ++ [(x1, x2)]) (by rw [List.length_append]; exact hu)
            rw [List.length_append] at h
            exact ⟨ad2, cap2, h⟩
          obtain ⟨ad5, cap5, rfl⟩ := key hown5
          have HBX5 : Hid (BoxAt w5 w.heap.size (.int .i64 0) (.int .i64 0) (.slice none 0 0)) := (HBX.out.gr (Gr.refl _).alloc).below hb5 (by omega)
          have HBY5 : Hid (BoxAt w5 (w.heap.size + 1) (.int .i64 r) (.int .i64 n) (.slice ad L.length cap)) := (HBY.out.gr (Gr.refl _).alloc).below hb5 (by omega)
          have HG5 : Hid (Gr w w5) := ⟨(HG.out.alloc).below.trans (hb5.mono (by omega))⟩
          have HO5 : Hid (w5.ownsRow (w.heap.size + 1 + 1) 56 2 (.slice ad5 (L.length + 1) cap5) (L.length + 1) (hopV L ++ hopV [(x1, x2)])) := hown5
          clear hown5 hown y0 y1 y2 g0 g1 g2 xx0 xx1 xx2 f0 f1 f2 hgrow key
          obtain ⟨v0, v1, v2, j0, j1, j2, vlt⟩ := HBY5.out
          go_wp2
          go_roundw
          case rel =>
            refine ⟨L ++ [(x1, x2)], t3, b3, ad5, cap5, by simp; omega, rfl, rfl, ht3, HBX5.out.setFar _ _ (by simp), ?_, ?_, ?_, ?_⟩
            · rw [List.length_append]; exact HBY5.out.set2 _
            · rw [List.length_append, hopV_app]
              exact HO5.out.kept (grownBy_set _ _ _) (Or.inr (fun e => by have := HO5.out.lt _ e; simp at this; omega))
            · rw [List.length_append]; exact HRD2.out
            · exact HG5.out.set _ (by simp) _
          case measure =>
            rw [hlc]
            have : lenCell ((w5.setCell ⟨w.heap.size + 1, 2, none⟩ (.slice ad5 (L.length + 1) cap5)).cell? ⟨w.heap.size + 1, 2, none⟩) = L.length + 1 := by rw [(HBY5.out.set2 _).c2]; rfl
            rw [this]; omega
      · have HR : Hid (refP s.data.toList = if goodB s.data.toList (r, n, L, ok) = true then some (r, n, L) else none) := by
          show _ = _
          rw [HS1.out, HRD.out, loop_stop _ _ _ _ _ (by
            by_cases h5 : L.length < 5
            · right
              rintro ⟨e, h⟩
              exact hgo ⟨e, by omega, h5⟩
            · left; omega)]
          rfl
        have HH : Hid (HopsAt wr ad L ∧ ∀ a, ad = some a → w.heap.size + 1 + 1 ≤ a.block) := by
          obtain ⟨ad', cap', h, _, h2, h3⟩ := own_hops hown
          simp at h
          obtain ⟨rfl, rfl⟩ := h
          exact ⟨h2, h3⟩
        have HGB : Hid (goodB s.data.toList (r, n, L, ok) = (ok && Idn.mayB r n L && decide (Idn.showT r n L = s.data.toList))) := rfl
        clear hown HRD HS1 HN HT
        cases ok with
        | false =>
          have HRN : Hid (refP s.data.toList = none) := by show _ = _; rw [HR.out, HGB.out]; simp
          clear hgo
          go_wp2_with fail
          refine (HSH.out r n L ad cap _ hl5 HH.out.1).mono ?_
          rintro e5 w6 ⟨hcase, hg6⟩
          have HG6 : Hid (Gr w w6) := HG.out.trans hg6
          have HH6 : Hid (HopsAt w6 ad L) := HH.out.1.gr hg6
          obtain ⟨xx0, xx1, xx2, f0, f1, f2, xlt⟩ := HBX.out.gr hg6
          obtain ⟨z0, z1, z2, k0, k1, k2, zlt⟩ := HBY.out.gr hg6
          clear hg6 y0 y1 y2 g0 g1 g2 ylt
          rcases hcase with ⟨_, rfl⟩ | ⟨_, rfl⟩
          all_goals
            go_wp2
            have hg := HG6.out
            exact bodyPost_ret (v := .tuple #[.agg #[.int .i64 0, .int .i64 0, .slice none 0 0], .int .i64 30]) (by simp [results, Tryz.results52, go_sem, xx0, xx1, xx2]) rfl ⟨Or.inr ⟨HRN.out, rfl⟩, (by (repeat' (first | with_reducible exact Gr.refl _ | with_reducible refine Gr.set ?_ _ ?_ _ | with_reducible refine Gr.alloc ?_ | with_reducible refine Gr.drew ?_ | with_reducible refine Gr.trans ?_ (by assumption))) <;> (first | (simp; done) | (simp; omega) | omega))⟩
        | true =>
          have hcond : ¬ ((k : Int) < (s.size : Int)) ∨ ((k : Int) < (s.size : Int) ∧ ¬ ((L.length : Int) < 5)) := by
            by_cases h : k < s.size
            · right; exact ⟨by omega, fun h5 => hgo ⟨rfl, h, by omega⟩⟩
            · left; omega
          clear hgo
          rcases hcond with hc1 | ⟨hc1, hc2⟩
          all_goals
            go_wp2_with fail
            refine (HSH.out r n L ad cap _ hl5 HH.out.1).mono ?_
            rintro e5 w6 ⟨hcase, hg6⟩
            have HG6 : Hid (Gr w w6) := HG.out.trans hg6
            have HH6 : Hid (HopsAt w6 ad L) := HH.out.1.gr hg6
            obtain ⟨xx0, xx1, xx2, f0, f1, f2, xlt⟩ := HBX.out.gr hg6
            obtain ⟨z0, z1, z2, k0, k1, k2, zlt⟩ := HBY.out.gr hg6
            clear hg6 y0 y1 y2 g0 g1 g2 ylt
            rcases hcase with ⟨hmay, rfl⟩ | ⟨hmay, rfl⟩
            · have heq : (Idn.showT r n L == s.toList) = decide (Idn.showT r n L = s.data.toList) := by
                rw [toList_dat3]
                by_cases h : Idn.showT r n L = s.data.toList
                · rw [decide_eq_true h]; exact beq_iff_eq.2 h
                · rw [decide_eq_false h]; exact beq_eq_false_iff_ne.2 h
              by_cases hq : Idn.showT r n L = s.data.toList
              · rw [decide_eq_true hq] at heq
                have HRS : Hid (refP s.data.toList = some (r, n, L)) := by show _ = _; rw [HR.out, HGB.out, hmay, decide_eq_true hq]; rfl
                generalize Idn.showT r n L = st at *
                clear hq hmay
                go_wp2
                have hg := HG6.out
                have hia := HH6.out
                have hfr := HH.out.2
                exact bodyPost_ret (v := .tuple #[.agg #[.int .i64 r, .int .i64 n, .slice ad L.length cap], .int .i64 0]) (by simp [results, Tryz.results52, go_sem, xx0, xx1, xx2]) rfl ⟨Or.inl ⟨r, n, L, ad, cap, HRS.out, rfl, (by (repeat' (first | with_reducible exact hia | with_reducible refine HopsAt.set ?_ _ _ ?_ | with_reducible refine HopsAt.alloc ?_ | with_reducible refine HopsAt.drew ?_)) <;> (intro a e; have := hfr a e; simp at this ⊢; omega)), fun a e => by have := HH.out.2 a e; omega⟩, (by (repeat' (first | with_reducible exact Gr.refl _ | with_reducible refine Gr.set ?_ _ ?_ _ | with_reducible refine Gr.alloc ?_ | with_reducible refine Gr.drew ?_ | with_reducible refine Gr.trans ?_ (by assumption))) <;> (first | (simp; done) | (simp; omega) | omega))⟩
              · rw [decide_eq_false hq] at heq
                have HRN : Hid (refP s.data.toList = none) := by show _ = _; rw [HR.out, HGB.out, decide_eq_false hq]; simp
                generalize Idn.showT r n L = st at *
                clear hq hmay
                go_wp2
                have hg := HG6.out
                exact bodyPost_ret (v := .tuple #[.agg #[.int .i64 0, .int .i64 0, .slice none 0 0], .int .i64 30]) (by simp [results, Tryz.results52, go_sem, xx0, xx1, xx2]) rfl ⟨Or.inr ⟨HRN.out, rfl⟩, (by (repeat' (first | with_reducible exact Gr.refl _ | with_reducible refine Gr.set ?_ _ ?_ _ | with_reducible refine Gr.alloc ?_ | with_reducible refine Gr.drew ?_ | with_reducible refine Gr.trans ?_ (by assumption))) <;> (first | (simp; done) | (simp; omega) | omega))⟩
            · have HRN : Hid (refP s.data.toList = none) := by show _ = _; rw [HR.out, HGB.out, hmay]; simp
              clear hmay
              go_wp2
              have hg := HG6.out
              exact bodyPost_ret (v := .tuple #[.agg #[.int .i64 0, .int .i64 0, .slice none 0 0], .int .i64 30]) (by simp [results, Tryz.results52, go_sem, xx0, xx1, xx2]) rfl ⟨Or.inr ⟨HRN.out, rfl⟩, (by (repeat' (first | with_reducible exact Gr.refl _ | with_reducible refine Gr.set ?_ _ ?_ _ | with_reducible refine Gr.alloc ?_ | with_reducible refine Gr.drew ?_ | with_reducible refine Gr.trans ?_ (by assumption))) <;> (first | (simp; done) | (simp; omega) | omega))⟩
theorem refParse_any (s : ByteArray) (w : World) (hs : s.size ≤ 140737488355328) :
    Calls Tryz.prog 52 #[.string s] w fun e w' =>
      ((∃ r n L ad2 cap2, refP s.data.toList = some (r, n, L) ∧ e = .returned (.tuple #[.agg #[.int .i64 r, .int .i64 n, .slice ad2 L.length cap2], .int .i64 0]) ∧ HopsAt w' ad2 L) ∨
       (refP s.data.toList = none ∧ e = .returned (.tuple #[.agg #[.int .i64 0, .int .i64 0, .slice none 0 0], .int .i64 30]))) ∧ Gr w w' := by
  refine (refParse_new s w hs).mono ?_
  rintro e w' ⟨⟨r, n, L, ad2, cap2, h1, h2, h3, _⟩ | h, hg⟩
  · exact ⟨Or.inl ⟨r, n, L, ad2, cap2, h1, h2, h3⟩, hg⟩
  · exact ⟨Or.inr h, hg⟩
end Go.Proofs.YtcmbppjfpdkblaaGreatDoor
