/- Parts of these proofs, laid together. -/
import Derived.Test.YthfbpilfdfploaaGE
namespace Go.Proofs.Ythfbpilfdfploaa
open Go.RowKit

variable {Z : Nat → Prop}
set_option maxHeartbeats 8000000 in
set_option maxRecDepth 100000 in
theorem oMay_any (D : List Mi) (ad : Option Addr) (cap : Nat) (w : World) (hD : ItsAt Z w ad D) (hc : D.length ≤ cap) (hn : D.length ≤ 9223372036854775807) :
    Calls Try.prog 42 #[.slice ad D.length cap] w fun e w' => e = .returned (.int .i64 (oMayE D)) ∧ Gr w w' := by
  by_cases hlen : (12 : Int) < (D.length : Int)
  · have HF : Hid (oMayE D = 2) := oMayE_big (by omega)
    clear hD
    go_enter Try.func42, Try.ntmps42
    go_wp2
    go_ret
    exact ⟨by rw [HF.out]; rfl, (by repeat(first|exact Gr.r _|refine Gr.a ?_|refine Gr.d ?_|refine Gr.t ?_ (by assumption)))⟩
  · have hlen2 : ¬ 12 < D.length := by omega
    have HX0 : Hid (∀ x ∈ D, ∀ w', Gr w w' → Calls Try.prog 65 #[x.v] w' fun e w2 => e = .returned (.bool (Ox.one okN x.it)) ∧ Gr w' w2) := fun x hx w' g => itemMay_any x w' ((hD.nt x hx).gr g)
    have HH0 : Hid (∀ (j : Nat) (_ : j ≤ D.length), ∀ x ∈ D, ∀ w', Gr w w' → Calls Try.prog 43 #[.slice ad (j : Nat) cap, x.m.v] w' fun e w2 => e = .returned (.bool (Ox.among (its (D.take j)) (pk x.m.x))) ∧ Gr w' w2) := fun j hj x hx w' g => by
      have := has_any (D.take j) x.m ad cap w' ((hD.gr g).cut j) (by rw [List.length_take]; omega) ((hD.nt x hx).gr g)
      rw [List.length_take, Nat.min_eq_left hj] at this
      exact this
    have HD := Lib.hid hD.row
    have HE0 : Hid (∀ k, k < D.length → Ox.at_ okN (its D) k = false → oMayE D = 2) := fun k hk h => oMayE_no hk h
    have HE1 : Hid ((∀ j, j < D.length → Ox.at_ okN (its D) j = true) → oMayE D = 0) := fun h => oMayE_yes (by omega) h
    clear hD
    go_enter Try.func42, Try.ntmps42
    go_wp2
    go_loopw [10] (fun s10 wr => ∃ k : Nat, s10 = .int .i64 k ∧ k ≤ D.length ∧ (∀ j, j < D.length → j < k → Ox.at_ okN (its D) j = true) ∧ Gr w wr) (fun s10 _ => D.length - (intOf s10).toNat)
    case atStart => exact ⟨0, rfl, Nat.zero_le _, fun j _ h => absurd h (Nat.not_lt_zero _), Gr.refl _⟩
    case round =>
      obtain ⟨k, rfl, hk, hok, hg⟩ := hrel
      have HG := Lib.hid hg
      have HK := Lib.hid hok
      clear hok
      by_cases hlt : k < D.length
      · obtain ⟨b, off, rfl, hbl, d0, d1, d2, d3, d4, d5, d6, d7, d8⟩ := ItsRow.at HD.out k hlt
        have d0 := hg.keep d0
        have d1 := hg.keep d1
        have d2 := hg.keep d2
        have d3 := hg.keep d3
        have d4 := hg.keep d4
        have d5 := hg.keep d5
        have d6 := hg.keep d6
        have d7 := hg.keep d7
        have d8 := hg.keep d8
        have hbw : b < wr.heap.size := Nat.lt_of_lt_of_le hbl hg.size
        have hki : (k : Int) < (D.length : Int) := by omega
        have hkc : (k : Int) ≤ (cap : Int) := by omega
        have hk0' : (0 : Int) ≤ (k : Int) := by omega
        have HNX : Hid (Ox.at_ okN (its D) k = true → ∀ j, j < D.length → j < k + 1 → Ox.at_ okN (its D) j = true) := by
          intro h j hj hjk
          by_cases e : j = k
          · subst e; exact h
          · exact HK.out j hj (by omega)
        have HX := Lib.hid (HX0.out D[k] (List.getElem_mem hlt))
        have HH := Lib.hid (HH0.out k hk D[k] (List.getElem_mem hlt))
        have HF := Lib.hid (HE0.out k hlt)
        by_cases hk0 : k = 0
        · have HA : Hid (Ox.at_ okN (its D) k = (Ox.one okN D[k].it && !Ox.among (its (D.take k)) (pk D[k].m.x))) := by
            show _ = _
            subst hk0
            exact at_zero hlt
          have hz1 : decide ((0 : Int) < (k : Int)) = false := by simp; omega
          have hz2 : decide (0 < k) = false := by simp; omega
          have c0 := d0
          have HK0 := Lib.hid hk0
          clear hk0 hg HX0 HH0 HE0 HE1 HK
          generalize Ox.at_ okN (its D) k = A at *
          generalize D[k] = x at *
          generalize Ox.among (its (D.take k)) (pk x.m.x) = B at *
          generalize Ox.one okN x.it = O at *
          obtain ⟨q, dd, s, ⟨⟨k0, r, n, L, dt, y⟩, ax, cx⟩⟩ := x
          dsimp only [Mn.v, Mi.v] at *
          generalize L.length = ll at *
          cases O with
          | false =>
            replace HF := Lib.hid (HF.out (by rw [HA.out]; rfl))
            go_wp2_with fail
            obtain ⟨W, hW⟩ : ∃ W, W = wr.alloc (.cells #[.int .i64 q, .int .i64 dd, .int .i64 s, .int .i64 k0, .int .i64 r, .int .i64 n, .slice ax ll cx, .string dt, .int .i64 y] 79) := ⟨_, rfl⟩
            have hgw : Gr wr W := by rw [hW]; exact (Gr.refl _).alloc
            have hcs : Cs W wr.heap.size [.int .i64 q, .int .i64 dd, .int .i64 s, .int .i64 k0, .int .i64 r, .int .i64 n, .slice ax ll cx, .string dt, .int .i64 y] := by rw [hW]; exact Cs.new _ _ _ _ rfl
            have hpc := hgw.keep c0
            have HGW : Hid (Gr w W) := HG.out.trans hgw
            rw [← hW]
            clear hW hgw
            refine wp_region_held_drew (S := (fun w' => Gr W w' ∧ w'.cell? ⟨wr.heap.size, 0, none⟩ = some (.int .i64 q) ∧ w'.cell? ⟨wr.heap.size, 1, none⟩ = some (.int .i64 dd) ∧ w'.cell? ⟨wr.heap.size, 2, none⟩ = some (.int .i64 s) ∧ w'.cell? ⟨wr.heap.size, 3, none⟩ = some (.int .i64 k0) ∧ w'.cell? ⟨wr.heap.size, 4, none⟩ = some (.int .i64 r) ∧ w'.cell? ⟨wr.heap.size, 5, none⟩ = some (.int .i64 n) ∧ w'.cell? ⟨wr.heap.size, 6, none⟩ = some (.slice ax ll cx) ∧ w'.cell? ⟨wr.heap.size, 7, none⟩ = some (.string dt) ∧ w'.cell? ⟨wr.heap.size, 8, none⟩ = some (.int .i64 y) ∧ w'.cell? ⟨b, off + k * 9, none⟩ = some (.int .i64 q))) (by kernel_rfl) (by exact hold10 (by repeat(first|exact Gr.r _|refine Gr.a ?_|refine Gr.d ?_|refine Gr.t ?_ (by assumption))) hcs hpc) (fun hHeld => ?_)
            refine ty 0 15 hHeld ?_
            refine wpAnyH_ready (rs := [1]) (by kernel_rfl) (by simp) (AllReadyH.cons rfl (fun K hK => ?_) AllReadyH.nil)
            go_simp
            (go_at_call 65; refine (HX.out _ (HGW.out.trans (by repeat(first|exact Gr.r _|refine Gr.a ?_|refine Gr.d ?_|refine Gr.t ?_ (by assumption))))).mono ?_; rintro e wn ⟨rfl, hgn⟩)
            (try go_wp2_with fail)
            refine hK.out _ _ (by exact hold10 (by repeat(first|exact Gr.r _|refine Gr.a ?_|refine Gr.d ?_|refine Gr.t ?_ (by assumption))) hcs hpc) (fun hHeldN => ?_)
            clear hHeld hK K
            have hHeld := hHeldN
            clear hHeldN
            refine ty 2 17 hHeld ?_
            refine ty 3 18 hHeld ?_
            refine tn 4 19 hHeld ?_
            refine tn 5 20 hHeld ?_
            refine tn 6 21 hHeld ?_
            refine tn 7 22 hHeld ?_
            refine tn 8 23 hHeld ?_
            refine tn 9 24 hHeld ?_
            refine tn 10 25 hHeld ?_
            refine tn 11 26 hHeld ?_
            refine tn 12 27 hHeld ?_
            refine tn 13 28 hHeld ?_
            refine tn 14 29 hHeld ?_
            refine tn 15 30 hHeld ?_
            refine tn 16 31 hHeld ?_
            refine ty 17 32 hHeld ?_
            refine ty 18 33 hHeld ?_
            refine tn 19 34 hHeld ?_
            refine tn 20 35 hHeld ?_
            refine tn 21 36 hHeld ?_
            refine tn 22 37 hHeld ?_
            refine tn 23 38 hHeld ?_
            refine tn 24 39 hHeld ?_
            refine ty 25 40 hHeld ?_
            refine wpAnyH_done (by kernel_rfl) ?_ _
            go_wp2
            go_ret
            exact ⟨by rw [HF.out]; rfl, HGW.out.trans (by repeat(first|exact Gr.r _|refine Gr.a ?_|refine Gr.d ?_|refine Gr.t ?_ (by assumption)))⟩
          | true =>
            cases B with
            | true =>
              replace HF := Lib.hid (HF.out (by rw [HA.out]; rfl))
              go_wp2_with fail
              obtain ⟨W, hW⟩ : ∃ W, W = wr.alloc (.cells #[.int .i64 q, .int .i64 dd, .int .i64 s, .int .i64 k0, .int .i64 r, .int .i64 n, .slice ax ll cx, .string dt, .int .i64 y] 79) := ⟨_, rfl⟩
              have hgw : Gr wr W := by rw [hW]; exact (Gr.refl _).alloc
              have hcs : Cs W wr.heap.size [.int .i64 q, .int .i64 dd, .int .i64 s, .int .i64 k0, .int .i64 r, .int .i64 n, .slice ax ll cx, .string dt, .int .i64 y] := by rw [hW]; exact Cs.new _ _ _ _ rfl
              have hpc := hgw.keep c0
              have HGW : Hid (Gr w W) := HG.out.trans hgw
              rw [← hW]
              clear hW hgw
              refine wp_region_held_drew (S := (fun w' => Gr W w' ∧ w'.cell? ⟨wr.heap.size, 0, none⟩ = some (.int .i64 q) ∧ w'.cell? ⟨wr.heap.size, 1, none⟩ = some (.int .i64 dd) ∧ w'.cell? ⟨wr.heap.size, 2, none⟩ = some (.int .i64 s) ∧ w'.cell? ⟨wr.heap.size, 3, none⟩ = some (.int .i64 k0) ∧ w'.cell? ⟨wr.heap.size, 4, none⟩ = some (.int .i64 r) ∧ w'.cell? ⟨wr.heap.size, 5, none⟩ = some (.int .i64 n) ∧ w'.cell? ⟨wr.heap.size, 6, none⟩ = some (.slice ax ll cx) ∧ w'.cell? ⟨wr.heap.size, 7, none⟩ = some (.string dt) ∧ w'.cell? ⟨wr.heap.size, 8, none⟩ = some (.int .i64 y) ∧ w'.cell? ⟨b, off + k * 9, none⟩ = some (.int .i64 q))) (by kernel_rfl) (by exact hold10 (by repeat(first|exact Gr.r _|refine Gr.a ?_|refine Gr.d ?_|refine Gr.t ?_ (by assumption))) hcs hpc) (fun hHeld => ?_)
              refine ty 0 15 hHeld ?_
              refine wpAnyH_ready (rs := [1]) (by kernel_rfl) (by simp) (AllReadyH.cons rfl (fun K hK => ?_) AllReadyH.nil)
              go_simp
              (go_at_call 65; refine (HX.out _ (HGW.out.trans (by repeat(first|exact Gr.r _|refine Gr.a ?_|refine Gr.d ?_|refine Gr.t ?_ (by assumption))))).mono ?_; rintro e wn ⟨rfl, hgn⟩)
              (try go_wp2_with fail)
              refine hK.out _ _ (by exact hold10 (by repeat(first|exact Gr.r _|refine Gr.a ?_|refine Gr.d ?_|refine Gr.t ?_ (by assumption))) hcs hpc) (fun hHeldN => ?_)
              clear hHeld hK K
              have hHeld := hHeldN
              clear hHeldN
              refine ty 2 17 hHeld ?_
              refine ty 3 18 hHeld ?_
              refine ty 4 19 hHeld ?_
              refine ty 5 20 hHeld ?_
              refine ty 6 21 hHeld ?_
              refine tn 7 22 hHeld ?_
              refine tn 8 23 hHeld ?_
              refine tn 9 24 hHeld ?_
              refine tn 10 25 hHeld ?_
              refine tn 11 26 hHeld ?_
              refine tn 12 27 hHeld ?_
              refine tn 13 28 hHeld ?_
              refine tn 14 29 hHeld ?_
              refine tn 15 30 hHeld ?_
              refine ty 16 31 hHeld ?_
              refine ty 17 32 hHeld ?_
              refine ty 18 33 hHeld ?_
              refine ty 19 34 hHeld ?_
              refine ty 20 35 hHeld ?_
              refine ty 21 36 hHeld ?_
              refine ty 22 37 hHeld ?_
              refine ty 23 38 hHeld ?_
              refine wpAnyH_ready (rs := [24]) (by kernel_rfl) (by simp) (AllReadyH.cons rfl (fun K hK => ?_) AllReadyH.nil)
              go_simp
              (go_at_call 43; refine (HH.out _ (HGW.out.trans (by repeat(first|exact Gr.r _|refine Gr.a ?_|refine Gr.d ?_|refine Gr.t ?_ (by assumption))))).mono ?_; rintro e2 wn2 ⟨rfl, hgn2⟩)
              (try go_wp2_with fail)
              refine hK.out _ _ (by exact hold10 (by repeat(first|exact Gr.r _|refine Gr.a ?_|refine Gr.d ?_|refine Gr.t ?_ (by assumption))) hcs hpc) (fun hHeldN => ?_)
              clear hHeld hK K
              have hHeld := hHeldN
              clear hHeldN
              refine ty 25 40 hHeld ?_
              refine wpAnyH_done (by kernel_rfl) ?_ _
              go_wp2
              go_ret
              exact ⟨by rw [HF.out]; rfl, HGW.out.trans (by repeat(first|exact Gr.r _|refine Gr.a ?_|refine Gr.d ?_|refine Gr.t ?_ (by assumption)))⟩
            | false =>
              replace HNX := Lib.hid (HNX.out (by rw [HA.out]; rfl))
              go_wp2_with fail
              obtain ⟨W, hW⟩ : ∃ W, W = wr.alloc (.cells #[.int .i64 q, .int .i64 dd, .int .i64 s, .int .i64 k0, .int .i64 r, .int .i64 n, .slice ax ll cx, .string dt, .int .i64 y] 79) := ⟨_, rfl⟩
              have hgw : Gr wr W := by rw [hW]; exact (Gr.refl _).alloc
              have hcs : Cs W wr.heap.size [.int .i64 q, .int .i64 dd, .int .i64 s, .int .i64 k0, .int .i64 r, .int .i64 n, .slice ax ll cx, .string dt, .int .i64 y] := by rw [hW]; exact Cs.new _ _ _ _ rfl
              have hpc := hgw.keep c0
              have HGW : Hid (Gr w W) := HG.out.trans hgw
              rw [← hW]
              clear hW hgw
              refine wp_region_held_drew (S := (fun w' => Gr W w' ∧ w'.cell? ⟨wr.heap.size, 0, none⟩ = some (.int .i64 q) ∧ w'.cell? ⟨wr.heap.size, 1, none⟩ = some (.int .i64 dd) ∧ w'.cell? ⟨wr.heap.size, 2, none⟩ = some (.int .i64 s) ∧ w'.cell? ⟨wr.heap.size, 3, none⟩ = some (.int .i64 k0) ∧ w'.cell? ⟨wr.heap.size, 4, none⟩ = some (.int .i64 r) ∧ w'.cell? ⟨wr.heap.size, 5, none⟩ = some (.int .i64 n) ∧ w'.cell? ⟨wr.heap.size, 6, none⟩ = some (.slice ax ll cx) ∧ w'.cell? ⟨wr.heap.size, 7, none⟩ = some (.string dt) ∧ w'.cell? ⟨wr.heap.size, 8, none⟩ = some (.int .i64 y) ∧ w'.cell? ⟨b, off + k * 9, none⟩ = some (.int .i64 q))) (by kernel_rfl) (by exact hold10 (by repeat(first|exact Gr.r _|refine Gr.a ?_|refine Gr.d ?_|refine Gr.t ?_ (by assumption))) hcs hpc) (fun hHeld => ?_)
              refine ty 0 15 hHeld ?_
              refine wpAnyH_ready (rs := [1]) (by kernel_rfl) (by simp) (AllReadyH.cons rfl (fun K hK => ?_) AllReadyH.nil)
              go_simp
              (go_at_call 65; refine (HX.out _ (HGW.out.trans (by repeat(first|exact Gr.r _|refine Gr.a ?_|refine Gr.d ?_|refine Gr.t ?_ (by assumption))))).mono ?_; rintro e wn ⟨rfl, hgn⟩)
              (try go_wp2_with fail)
              refine hK.out _ _ (by exact hold10 (by repeat(first|exact Gr.r _|refine Gr.a ?_|refine Gr.d ?_|refine Gr.t ?_ (by assumption))) hcs hpc) (fun hHeldN => ?_)
              clear hHeld hK K
              have hHeld := hHeldN
              clear hHeldN
              refine ty 2 17 hHeld ?_
              refine ty 3 18 hHeld ?_
              refine ty 4 19 hHeld ?_
              refine ty 5 20 hHeld ?_
              refine ty 6 21 hHeld ?_
              refine tn 7 22 hHeld ?_
              refine tn 8 23 hHeld ?_
              refine tn 9 24 hHeld ?_
              refine tn 10 25 hHeld ?_
              refine tn 11 26 hHeld ?_
              refine tn 12 27 hHeld ?_
              refine tn 13 28 hHeld ?_
              refine tn 14 29 hHeld ?_
              refine tn 15 30 hHeld ?_
              refine ty 16 31 hHeld ?_
              refine ty 17 32 hHeld ?_
              refine ty 18 33 hHeld ?_
              refine ty 19 34 hHeld ?_
              refine ty 20 35 hHeld ?_
              refine ty 21 36 hHeld ?_
              refine ty 22 37 hHeld ?_
              refine ty 23 38 hHeld ?_
              refine wpAnyH_ready (rs := [24]) (by kernel_rfl) (by simp) (AllReadyH.cons rfl (fun K hK => ?_) AllReadyH.nil)
              go_simp
              (go_at_call 43; refine (HH.out _ (HGW.out.trans (by repeat(first|exact Gr.r _|refine Gr.a ?_|refine Gr.d ?_|refine Gr.t ?_ (by assumption))))).mono ?_; rintro e2 wn2 ⟨rfl, hgn2⟩)
              (try go_wp2_with fail)
              refine hK.out _ _ (by exact hold10 (by repeat(first|exact Gr.r _|refine Gr.a ?_|refine Gr.d ?_|refine Gr.t ?_ (by assumption))) hcs hpc) (fun hHeldN => ?_)
              clear hHeld hK K
              have hHeld := hHeldN
              clear hHeldN
              refine ty 25 40 hHeld ?_
              refine wpAnyH_done (by kernel_rfl) ?_ _
              go_wp2
              go_roundw
              case rel => exact ⟨k + 1, by go_num, by omega, HNX.out, HGW.out.trans (by repeat(first|exact Gr.r _|refine Gr.a ?_|refine Gr.d ?_|refine Gr.t ?_ (by assumption)))⟩
              case measure => simp [intOf]; omega
        · obtain ⟨k1, hk1⟩ : ∃ k1, k = k1 + 1 := ⟨k - 1, by omega⟩
          have hlt1 : k1 < D.length := by omega
          have HA : Hid (Ox.at_ okN (its D) k = (Ox.one okN D[k].it && !decide (D[k].q ≤ D[k1].q) && !Ox.among (its (D.take k)) (pk D[k].m.x))) := by
            show _ = _
            subst hk1
            exact at_succ hlt
          obtain ⟨_, _, e, _, c0, _⟩ := ItsRow.at HD.out k1 hlt1
          cases e
          have c0 := hg.keep c0
          have hz1 : decide ((0 : Int) < (k : Int)) = true := by simp; omega
          have hz2 : decide (0 < k) = true := by simp; omega
          have hz3 : IntKind.i64.wrap (k1 : Int) = (k1 : Int) := by rw [IntKind.wrap_i64]; omega
          have hz4 : (k : Int) - 1 = (k1 : Int) := by omega
          have hz5 : (k1 : Int) < (D.length : Int) := by omega
          clear hk0 hg HX0 HH0 HE0 HE1 HK hk1
          generalize Ox.at_ okN (its D) k = A at *
          generalize D[k1].q = q1 at *
          generalize D[k] = x at *
          generalize Ox.among (its (D.take k)) (pk x.m.x) = B at *
          generalize Ox.one okN x.it = O at *
          obtain ⟨q, dd, s, ⟨⟨k0, r, n, L, dt, y⟩, ax, cx⟩⟩ := x
          dsimp only [Mn.v, Mi.v] at *
          generalize L.length = ll at *
          cases O with
          | false =>
            replace HF := Lib.hid (HF.out (by rw [HA.out]; rfl))
            go_wp2_with fail
            obtain ⟨W, hW⟩ : ∃ W, W = wr.alloc (.cells #[.int .i64 q, .int .i64 dd, .int .i64 s, .int .i64 k0, .int .i64 r, .int .i64 n, .slice ax ll cx, .string dt, .int .i64 y] 79) := ⟨_, rfl⟩
            have hgw : Gr wr W := by rw [hW]; exact (Gr.refl _).alloc
            have hcs : Cs W wr.heap.size [.int .i64 q, .int .i64 dd, .int .i64 s, .int .i64 k0, .int .i64 r, .int .i64 n, .slice ax ll cx, .string dt, .int .i64 y] := by rw [hW]; exact Cs.new _ _ _ _ rfl
            have hpc := hgw.keep c0
            have HGW : Hid (Gr w W) := HG.out.trans hgw
            rw [← hW]
            clear hW hgw
            refine wp_region_held_drew (S := (fun w' => Gr W w' ∧ w'.cell? ⟨wr.heap.size, 0, none⟩ = some (.int .i64 q) ∧ w'.cell? ⟨wr.heap.size, 1, none⟩ = some (.int .i64 dd) ∧ w'.cell? ⟨wr.heap.size, 2, none⟩ = some (.int .i64 s) ∧ w'.cell? ⟨wr.heap.size, 3, none⟩ = some (.int .i64 k0) ∧ w'.cell? ⟨wr.heap.size, 4, none⟩ = some (.int .i64 r) ∧ w'.cell? ⟨wr.heap.size, 5, none⟩ = some (.int .i64 n) ∧ w'.cell? ⟨wr.heap.size, 6, none⟩ = some (.slice ax ll cx) ∧ w'.cell? ⟨wr.heap.size, 7, none⟩ = some (.string dt) ∧ w'.cell? ⟨wr.heap.size, 8, none⟩ = some (.int .i64 y) ∧ w'.cell? ⟨b, off + k1 * 9, none⟩ = some (.int .i64 q1))) (by kernel_rfl) (by exact hold10 (by repeat(first|exact Gr.r _|refine Gr.a ?_|refine Gr.d ?_|refine Gr.t ?_ (by assumption))) hcs hpc) (fun hHeld => ?_)
            refine ty 0 15 hHeld ?_
            refine wpAnyH_ready (rs := [1]) (by kernel_rfl) (by simp) (AllReadyH.cons rfl (fun K hK => ?_) AllReadyH.nil)
            go_simp
            (go_at_call 65; refine (HX.out _ (HGW.out.trans (by repeat(first|exact Gr.r _|refine Gr.a ?_|refine Gr.d ?_|refine Gr.t ?_ (by assumption))))).mono ?_; rintro e wn ⟨rfl, hgn⟩)
            (try go_wp2_with fail)
            refine hK.out _ _ (by exact hold10 (by repeat(first|exact Gr.r _|refine Gr.a ?_|refine Gr.d ?_|refine Gr.t ?_ (by assumption))) hcs hpc) (fun hHeldN => ?_)
            clear hHeld hK K
            have hHeld := hHeldN
            clear hHeldN
            refine ty 2 17 hHeld ?_
            refine ty 3 18 hHeld ?_
            refine tn 4 19 hHeld ?_
            refine tn 5 20 hHeld ?_
            refine tn 6 21 hHeld ?_
            refine tn 7 22 hHeld ?_
            refine tn 8 23 hHeld ?_
            refine tn 9 24 hHeld ?_
            refine tn 10 25 hHeld ?_
            refine tn 11 26 hHeld ?_
            refine tn 12 27 hHeld ?_
            refine tn 13 28 hHeld ?_
            refine tn 14 29 hHeld ?_
            refine tn 15 30 hHeld ?_
            refine tn 16 31 hHeld ?_
            refine ty 17 32 hHeld ?_
            refine ty 18 33 hHeld ?_
            refine tn 19 34 hHeld ?_
            refine tn 20 35 hHeld ?_
            refine tn 21 36 hHeld ?_
            refine tn 22 37 hHeld ?_
            refine tn 23 38 hHeld ?_
            refine tn 24 39 hHeld ?_
            refine ty 25 40 hHeld ?_
            refine wpAnyH_done (by kernel_rfl) ?_ _
            go_wp2
            go_ret
            exact ⟨by rw [HF.out]; rfl, HGW.out.trans (by repeat(first|exact Gr.r _|refine Gr.a ?_|refine Gr.d ?_|refine Gr.t ?_ (by assumption)))⟩
          | true =>
            cases hC : decide (q ≤ q1) with
            | true =>
              rw [hC] at HA
              replace HF := Lib.hid (HF.out (by rw [HA.out]; rfl))
              go_wp2_with fail
              obtain ⟨W, hW⟩ : ∃ W, W = wr.alloc (.cells #[.int .i64 q, .int .i64 dd, .int .i64 s, .int .i64 k0, .int .i64 r, .int .i64 n, .slice ax ll cx, .string dt, .int .i64 y] 79) := ⟨_, rfl⟩
              have hgw : Gr wr W := by rw [hW]; exact (Gr.refl _).alloc
              have hcs : Cs W wr.heap.size [.int .i64 q, .int .i64 dd, .int .i64 s, .int .i64 k0, .int .i64 r, .int .i64 n, .slice ax ll cx, .string dt, .int .i64 y] := by rw [hW]; exact Cs.new _ _ _ _ rfl
              have hpc := hgw.keep c0
              have HGW : Hid (Gr w W) := HG.out.trans hgw
              rw [← hW]
              clear hW hgw
              refine wp_region_held_drew (S := (fun w' => Gr W w' ∧ w'.cell? ⟨wr.heap.size, 0, none⟩ = some (.int .i64 q) ∧ w'.cell? ⟨wr.heap.size, 1, none⟩ = some (.int .i64 dd) ∧ w'.cell? ⟨wr.heap.size, 2, none⟩ = some (.int .i64 s) ∧ w'.cell? ⟨wr.heap.size, 3, none⟩ = some (.int .i64 k0) ∧ w'.cell? ⟨wr.heap.size, 4, none⟩ = some (.int .i64 r) ∧ w'.cell? ⟨wr.heap.size, 5, none⟩ = some (.int .i64 n) ∧ w'.cell? ⟨wr.heap.size, 6, none⟩ = some (.slice ax ll cx) ∧ w'.cell? ⟨wr.heap.size, 7, none⟩ = some (.string dt) ∧ w'.cell? ⟨wr.heap.size, 8, none⟩ = some (.int .i64 y) ∧ w'.cell? ⟨b, off + k1 * 9, none⟩ = some (.int .i64 q1))) (by kernel_rfl) (by exact hold10 (by repeat(first|exact Gr.r _|refine Gr.a ?_|refine Gr.d ?_|refine Gr.t ?_ (by assumption))) hcs hpc) (fun hHeld => ?_)
              refine ty 0 15 hHeld ?_
              refine wpAnyH_ready (rs := [1]) (by kernel_rfl) (by simp) (AllReadyH.cons rfl (fun K hK => ?_) AllReadyH.nil)
              go_simp
              (go_at_call 65; refine (HX.out _ (HGW.out.trans (by repeat(first|exact Gr.r _|refine Gr.a ?_|refine Gr.d ?_|refine Gr.t ?_ (by assumption))))).mono ?_; rintro e wn ⟨rfl, hgn⟩)
              (try go_wp2_with fail)
              refine hK.out _ _ (by exact hold10 (by repeat(first|exact Gr.r _|refine Gr.a ?_|refine Gr.d ?_|refine Gr.t ?_ (by assumption))) hcs hpc) (fun hHeldN => ?_)
              clear hHeld hK K
              have hHeld := hHeldN
              clear hHeldN
              refine ty 2 17 hHeld ?_
              refine ty 3 18 hHeld ?_
              refine ty 4 19 hHeld ?_
              refine ty 5 20 hHeld ?_
              refine ty 6 21 hHeld ?_
              refine ty 7 22 hHeld ?_
              refine ty 8 23 hHeld ?_
              refine ty 9 24 hHeld ?_
              refine ty 10 25 hHeld ?_
              refine ty 11 26 hHeld ?_
              refine ty 12 27 hHeld ?_
              refine ty 13 28 hHeld ?_
              refine ty 14 29 hHeld ?_
              refine ty 15 30 hHeld ?_
              refine ty 16 31 hHeld ?_
              refine ty 17 32 hHeld ?_
              refine ty 18 33 hHeld ?_
              refine tn 19 34 hHeld ?_
              refine tn 20 35 hHeld ?_
              refine tn 21 36 hHeld ?_
              refine tn 22 37 hHeld ?_
              refine tn 23 38 hHeld ?_
              refine tn 24 39 hHeld ?_
              refine ty 25 40 hHeld ?_
              refine wpAnyH_done (by kernel_rfl) ?_ _
              go_wp2
              go_ret
              exact ⟨by rw [HF.out]; rfl, HGW.out.trans (by repeat(first|exact Gr.r _|refine Gr.a ?_|refine Gr.d ?_|refine Gr.t ?_ (by assumption)))⟩
            | false =>
              rw [hC] at HA
              cases B with
              | true =>
                replace HF := Lib.hid (HF.out (by rw [HA.out]; rfl))
                go_wp2_with fail
                obtain ⟨W, hW⟩ : ∃ W, W = wr.alloc (.cells #[.int .i64 q, .int .i64 dd, .int .i64 s, .int .i64 k0, .int .i64 r, .int .i64 n, .slice ax ll cx, .string dt, .int .i64 y] 79) := ⟨_, rfl⟩
                have hgw : Gr wr W := by rw [hW]; exact (Gr.refl _).alloc
                have hcs : Cs W wr.heap.size [.int .i64 q, .int .i64 dd, .int .i64 s, .int .i64 k0, .int .i64 r, .int .i64 n, .slice ax ll cx, .string dt, .int .i64 y] := by rw [hW]; exact Cs.new _ _ _ _ rfl
                have hpc := hgw.keep c0
                have HGW : Hid (Gr w W) := HG.out.trans hgw
                rw [← hW]
                clear hW hgw
                refine wp_region_held_drew (S := (fun w' => Gr W w' ∧ w'.cell? ⟨wr.heap.size, 0, none⟩ = some (.int .i64 q) ∧ w'.cell? ⟨wr.heap.size, 1, none⟩ = some (.int .i64 dd) ∧ w'.cell? ⟨wr.heap.size, 2, none⟩ = some (.int .i64 s) ∧ w'.cell? ⟨wr.heap.size, 3, none⟩ = some (.int .i64 k0) ∧ w'.cell? ⟨wr.heap.size, 4, none⟩ = some (.int .i64 r) ∧ w'.cell? ⟨wr.heap.size, 5, none⟩ = some (.int .i64 n) ∧ w'.cell? ⟨wr.heap.size, 6, none⟩ = some (.slice ax ll cx) ∧ w'.cell? ⟨wr.heap.size, 7, none⟩ = some (.string dt) ∧ w'.cell? ⟨wr.heap.size, 8, none⟩ = some (.int .i64 y) ∧ w'.cell? ⟨b, off + k1 * 9, none⟩ = some (.int .i64 q1))) (by kernel_rfl) (by exact hold10 (by repeat(first|exact Gr.r _|refine Gr.a ?_|refine Gr.d ?_|refine Gr.t ?_ (by assumption))) hcs hpc) (fun hHeld => ?_)
                refine ty 0 15 hHeld ?_
                refine wpAnyH_ready (rs := [1]) (by kernel_rfl) (by simp) (AllReadyH.cons rfl (fun K hK => ?_) AllReadyH.nil)
                go_simp
                (go_at_call 65; refine (HX.out _ (HGW.out.trans (by repeat(first|exact Gr.r _|refine Gr.a ?_|refine Gr.d ?_|refine Gr.t ?_ (by assumption))))).mono ?_; rintro e wn ⟨rfl, hgn⟩)
                (try go_wp2_with fail)
                refine hK.out _ _ (by exact hold10 (by repeat(first|exact Gr.r _|refine Gr.a ?_|refine Gr.d ?_|refine Gr.t ?_ (by assumption))) hcs hpc) (fun hHeldN => ?_)
                clear hHeld hK K
                have hHeld := hHeldN
                clear hHeldN
                refine ty 2 17 hHeld ?_
                refine ty 3 18 hHeld ?_
                refine ty 4 19 hHeld ?_
                refine ty 5 20 hHeld ?_
                refine ty 6 21 hHeld ?_
                refine ty 7 22 hHeld ?_
                refine ty 8 23 hHeld ?_
                refine ty 9 24 hHeld ?_
                refine ty 10 25 hHeld ?_
                refine ty 11 26 hHeld ?_
                refine ty 12 27 hHeld ?_
                refine ty 13 28 hHeld ?_
                refine ty 14 29 hHeld ?_
                refine ty 15 30 hHeld ?_
                refine ty 16 31 hHeld ?_
                refine ty 17 32 hHeld ?_
                refine ty 18 33 hHeld ?_
                refine ty 19 34 hHeld ?_
                refine ty 20 35 hHeld ?_
                refine ty 21 36 hHeld ?_
                refine ty 22 37 hHeld ?_
                refine ty 23 38 hHeld ?_
                refine wpAnyH_ready (rs := [24]) (by kernel_rfl) (by simp) (AllReadyH.cons rfl (fun K hK => ?_) AllReadyH.nil)
                go_simp
                (go_at_call 43; refine (HH.out _ (HGW.out.trans (by repeat(first|exact Gr.r _|refine Gr.a ?_|refine Gr.d ?_|refine Gr.t ?_ (by assumption))))).mono ?_; rintro e2 wn2 ⟨rfl, hgn2⟩)
                (try go_wp2_with fail)
                refine hK.out _ _ (by exact hold10 (by repeat(first|exact Gr.r _|refine Gr.a ?_|refine Gr.d ?_|refine Gr.t ?_ (by assumption))) hcs hpc) (fun hHeldN => ?_)
                clear hHeld hK K
                have hHeld := hHeldN
                clear hHeldN
                refine ty 25 40 hHeld ?_
                refine wpAnyH_done (by kernel_rfl) ?_ _
                go_wp2
                go_ret
                exact ⟨by rw [HF.out]; rfl, HGW.out.trans (by repeat(first|exact Gr.r _|refine Gr.a ?_|refine Gr.d ?_|refine Gr.t ?_ (by assumption)))⟩
              | false =>
                replace HNX := Lib.hid (HNX.out (by rw [HA.out]; rfl))
                go_wp2_with fail
                obtain ⟨W, hW⟩ : ∃ W, W = wr.alloc (.cells #[.int .i64 q, .int .i64 dd, .int .i64 s, .int .i64 k0, .int .i64 r, .int .i64 n, .slice ax ll cx, .string dt, .int .i64 y] 79) := ⟨_, rfl⟩
                have hgw : Gr wr W := by rw [hW]; exact (Gr.refl _).alloc
                have hcs : Cs W wr.heap.size [.int .i64 q, .int .i64 dd, .int .i64 s, .int .i64 k0, .int .i64 r, .int .i64 n, .slice ax ll cx, .string dt, .int .i64 y] := by rw [hW]; exact Cs.new _ _ _ _ rfl
                have hpc := hgw.keep c0
                have HGW : Hid (Gr w W) := HG.out.trans hgw
                rw [← hW]
                clear hW hgw
                refine wp_region_held_drew (S := (fun w' => Gr W w' ∧ w'.cell? ⟨wr.heap.size, 0, none⟩ = some (.int .i64 q) ∧ w'.cell? ⟨wr.heap.size, 1, none⟩ = some (.int .i64 dd) ∧ w'.cell? ⟨wr.heap.size, 2, none⟩ = some (.int .i64 s) ∧ w'.cell? ⟨wr.heap.size, 3, none⟩ = some (.int .i64 k0) ∧ w'.cell? ⟨wr.heap.size, 4, none⟩ = some (.int .i64 r) ∧ w'.cell? ⟨wr.heap.size, 5, none⟩ = some (.int .i64 n) ∧ w'.cell? ⟨wr.heap.size, 6, none⟩ = some (.slice ax ll cx) ∧ w'.cell? ⟨wr.heap.size, 7, none⟩ = some (.string dt) ∧ w'.cell? ⟨wr.heap.size, 8, none⟩ = some (.int .i64 y) ∧ w'.cell? ⟨b, off + k1 * 9, none⟩ = some (.int .i64 q1))) (by kernel_rfl) (by exact hold10 (by repeat(first|exact Gr.r _|refine Gr.a ?_|refine Gr.d ?_|refine Gr.t ?_ (by assumption))) hcs hpc) (fun hHeld => ?_)
                refine ty 0 15 hHeld ?_
                refine wpAnyH_ready (rs := [1]) (by kernel_rfl) (by simp) (AllReadyH.cons rfl (fun K hK => ?_) AllReadyH.nil)
                go_simp
                (go_at_call 65; refine (HX.out _ (HGW.out.trans (by repeat(first|exact Gr.r _|refine Gr.a ?_|refine Gr.d ?_|refine Gr.t ?_ (by assumption))))).mono ?_; rintro e wn ⟨rfl, hgn⟩)
                (try go_wp2_with fail)
                refine hK.out _ _ (by exact hold10 (by repeat(first|exact Gr.r _|refine Gr.a ?_|refine Gr.d ?_|refine Gr.t ?_ (by assumption))) hcs hpc) (fun hHeldN => ?_)
                clear hHeld hK K
                have hHeld := hHeldN
                clear hHeldN
                refine ty 2 17 hHeld ?_
                refine ty 3 18 hHeld ?_
                refine ty 4 19 hHeld ?_
                refine ty 5 20 hHeld ?_
                refine ty 6 21 hHeld ?_
                refine ty 7 22 hHeld ?_
                refine ty 8 23 hHeld ?_
                refine ty 9 24 hHeld ?_
                refine ty 10 25 hHeld ?_
                refine ty 11 26 hHeld ?_
                refine ty 12 27 hHeld ?_
                refine ty 13 28 hHeld ?_
                refine ty 14 29 hHeld ?_
                refine ty 15 30 hHeld ?_
                refine ty 16 31 hHeld ?_
                refine ty 17 32 hHeld ?_
                refine ty 18 33 hHeld ?_
                refine ty 19 34 hHeld ?_
                refine ty 20 35 hHeld ?_
                refine ty 21 36 hHeld ?_
                refine ty 22 37 hHeld ?_
                refine ty 23 38 hHeld ?_
                refine wpAnyH_ready (rs := [24]) (by kernel_rfl) (by simp) (AllReadyH.cons rfl (fun K hK => ?_) AllReadyH.nil)
                go_simp
                (go_at_call 43; refine (HH.out _ (HGW.out.trans (by repeat(first|exact Gr.r _|refine Gr.a ?_|refine Gr.d ?_|refine Gr.t ?_ (by assumption))))).mono ?_; rintro e2 wn2 ⟨rfl, hgn2⟩)
                (try go_wp2_with fail)
                refine hK.out _ _ (by exact hold10 (by repeat(first|exact Gr.r _|refine Gr.a ?_|refine Gr.d ?_|refine Gr.t ?_ (by assumption))) hcs hpc) (fun hHeldN => ?_)
                clear hHeld hK K
                have hHeld := hHeldN
                clear hHeldN
                refine ty 25 40 hHeld ?_
                refine wpAnyH_done (by kernel_rfl) ?_ _
                go_wp2
                go_roundw
                case rel => exact ⟨k + 1, by go_num, by omega, HNX.out, HGW.out.trans (by repeat(first|exact Gr.r _|refine Gr.a ?_|refine Gr.d ?_|refine Gr.t ?_ (by assumption)))⟩
                case measure => simp [intOf]; omega
      · have hge : ¬ ((k : Int) < (D.length : Int)) := by omega
        have HF : Hid (oMayE D = 0) := HE1.out (fun j hj => HK.out j hj (by omega))
        clear HX0 HH0 HE0 HE1 HK
        go_wp2
        go_ret
        exact ⟨by rw [HF.out]; rfl, HG.out⟩
end Go.Proofs.Ythfbpilfdfploaa
