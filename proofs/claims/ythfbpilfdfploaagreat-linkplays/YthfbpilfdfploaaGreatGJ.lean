/- Parts of these proofs, laid together. -/
import Derived.Test.YthfbpilfdfploaaGreatGE
import Derived.Test.YthfbpilfdfploaaGreatGD
import Derived.Test.YthfbpilfdfploaaGreatGI
namespace Go.Proofs.YthfbpilfdfploaaGreat
open Go.RowKit

variable {Z : Nat → Prop}
theorem rone_parts (q d s : Int) (x : Nt) (c : Bool) (hc : c = okN (pk x)) : Ox.one okN (⟨q, d, s, pk x⟩ : Ox.It Nx) = (!decide (q < 1) && !decide (1000000000 < q) && c && (decide (0 ≤ d ∧ d ≤ 1000000016) && decide (0 ≤ s ∧ s ≤ 1000000))) := by
  subst hc
  unfold Ox.one
  rw [Bool.eq_iff_iff]
  simp only [Bool.and_eq_true, decide_eq_true_eq, Bool.not_eq_true', decide_eq_false_iff_not]
  constructor
  · rintro ⟨⟨⟨h1, h2⟩, h3⟩, h4⟩; exact ⟨⟨⟨by omega, by omega⟩, h2⟩, h3, h4⟩
  · rintro ⟨⟨⟨h1, h3⟩, h2⟩, h4, h5⟩; exact ⟨⟨⟨by omega, h2⟩, h4⟩, h5⟩
set_option maxHeartbeats 16000000 in
set_option maxRecDepth 100000 in
theorem rMay_any (D : List Mi) (ad : Option Addr) (cap : Nat) (w : World) (hD : ItsAt Z w ad D) (hc : D.length ≤ cap) (hn : D.length ≤ 9223372036854775807) :
    Calls Tryz.prog 48 #[.slice ad D.length cap] w fun e w' => e = .returned (.int .i64 (oMayE D)) ∧ Gr w w' := by
  by_cases hlen : (12 : Int) < (D.length : Int)
  · have HF : Hid (oMayE D = 2) := oMayE_big (by omega)
    clear hD
    go_enter Tryz.func48, Tryz.ntmps48
    go_wp2
    go_ret
    exact ⟨by rw [HF.out]; rfl, (by repeat(first|exact Gr.r _|refine Gr.a ?_|refine Gr.d ?_|refine Gr.t ?_ (by assumption)))⟩
  · have hlen2 : ¬ 12 < D.length := by omega
    have HX0 : Hid (∀ x ∈ D, ∀ w', Gr w w' → Calls Tryz.prog 46 #[x.m.v] w' fun e w2 => e = .returned (.int .i64 (Nt.ckE x.m.x)) ∧ Gr w' w2) := fun x hx w' g => refNCheck_any x.m.x.k x.m.x.r x.m.x.n x.m.x.L x.m.x.d x.m.x.y x.m.ad x.m.cap w' ((hD.nt x hx).hp.gr g) (hD.nt x hx).hl (hD.nt x hx).hd
    have HH0 : Hid (∀ (j : Nat) (_ : j ≤ D.length), ∀ x ∈ D, ∀ w', Gr w w' → Calls Tryz.prog 50 #[.slice ad (j : Nat) cap, x.m.v] w' fun e w2 => e = .returned (.bool (Ox.among (its (D.take j)) (pk x.m.x))) ∧ Gr w' w2) := fun j hj x hx w' g => by
      have := rAmong_any (D.take j) x.m ad cap w' ((hD.gr g).cut j) (by rw [List.length_take]; omega) ((hD.nt x hx).gr g)
      rw [List.length_take, Nat.min_eq_left hj] at this
      exact this
    have HD := Lib.hid hD.row
    have HE0 : Hid (∀ k, k < D.length → Ox.at_ okN (its D) k = false → oMayE D = 2) := fun k hk h => oMayE_no hk h
    have HE1 : Hid ((∀ j, j < D.length → Ox.at_ okN (its D) j = true) → oMayE D = 0) := fun h => oMayE_yes (by omega) h
    clear hD
    go_enter Tryz.func48, Tryz.ntmps48
    go_wp2
    go_loopw [3] (fun s10 wr => ∃ k : Nat, s10 = .int .i64 k ∧ k ≤ D.length ∧ (∀ j, j < D.length → j < k → Ox.at_ okN (its D) j = true) ∧ Gr w wr) (fun s10 _ => D.length - (intOf s10).toNat)
    case atStart => exact ⟨0, rfl, Nat.zero_le _, fun j _ h => absurd h (Nat.not_lt_zero _), Gr.refl _⟩
    case round =>
      obtain ⟨k, rfl, hk, hok, hg⟩ := hrel
      have HG := Lib.hid hg
      have HK := Lib.hid hok
      clear hok
      by_cases hlt : k < D.length
      · obtain ⟨b, off, rfl, hbl, d0, d1, d2, d3, d4, d5, d6, d7, d8⟩ := ItsRow.at HD.out k hlt
        have d0 := hg.keep d0
        have d1 := hg.keep d1
        have d2 := hg.keep d2
        have d3 := hg.keep d3
        have d4 := hg.keep d4
        have d5 := hg.keep d5
        have d6 := hg.keep d6
        have d7 := hg.keep d7
        have d8 := hg.keep d8
        have hbw : b < wr.heap.size := Nat.lt_of_lt_of_le hbl hg.size
        have hki : (k : Int) < (D.length : Int) := by omega
        have hkc : (k : Int) ≤ (cap : Int) := by omega
        have hk0' : (0 : Int) ≤ (k : Int) := by omega
        have HNX : Hid (Ox.at_ okN (its D) k = true → ∀ j, j < D.length → j < k + 1 → Ox.at_ okN (its D) j = true) := by
          intro h j hj hjk
          by_cases e : j = k
          · subst e; exact h
          · exact HK.out j hj (by omega)
        have HX := Lib.hid (HX0.out D[k] (List.getElem_mem hlt))
        have HH := Lib.hid (HH0.out k hk D[k] (List.getElem_mem hlt))
        have HF := Lib.hid (HE0.out k hlt)
        have hO : Ox.one okN D[k].it = _ := rone_parts D[k].q D[k].d D[k].s D[k].m.x (Nt.ckE D[k].m.x == 0) (ck_okN _)
        have hck : Nt.ckE D[k].m.x = 0 ∨ Nt.ckE D[k].m.x = 130 := by
          unfold Nt.ckE
          split
          · exact Or.inl rfl
          · exact Or.inr rfl
        by_cases hk0 : k = 0
        · have HA : Hid (Ox.at_ okN (its D) k = (!decide (D[k].q < 1) && !decide (1000000000 < D[k].q) && (Nt.ckE D[k].m.x == 0) && (decide (0 ≤ D[k].d ∧ D[k].d ≤ 1000000016) && decide (0 ≤ D[k].s ∧ D[k].s ≤ 1000000)) && !Ox.among (its (D.take k)) (pk D[k].m.x))) := by
            show _ = _
            rw [← hO]
            subst hk0
            exact at_zero hlt
          have hz1 : decide ((0 : Int) < (k : Int)) = false := by simp; omega
          have hz2 : decide (0 < k) = false := by simp; omega
          have c0 := d0
          clear hk0 hg HX0 HH0 HE0 HE1 HK hO
          generalize Ox.at_ okN (its D) k = A at *
          generalize D[k] = x at *
          generalize Ox.among (its (D.take k)) (pk x.m.x) = B at *
          obtain ⟨q, dd, s, ⟨⟨k0, r, n, L, dt, y⟩, ax, cx⟩⟩ := x
          dsimp only [Mn.v, Mi.v] at *
          generalize Nt.ckE ⟨k0, r, n, L, dt, y⟩ = ck at *
          generalize L.length = ll at *
          by_cases u1 : q < 1
          · replace HF := Lib.hid (HF.out (by rw [HA.out, decide_eq_true u1]; simp))
            clear hck
            go_wp2_with fail
            obtain ⟨W, hW⟩ : ∃ W, W = wr.alloc (.cells #[.int .i64 q, .int .i64 dd, .int .i64 s, .int .i64 k0, .int .i64 r, .int .i64 n, .slice ax ll cx, .string dt, .int .i64 y] 73) := ⟨_, rfl⟩
            have hgw : Gr wr W := by rw [hW]; exact (Gr.refl _).alloc
            have hcs : Cs W wr.heap.size [.int .i64 q, .int .i64 dd, .int .i64 s, .int .i64 k0, .int .i64 r, .int .i64 n, .slice ax ll cx, .string dt, .int .i64 y] := by rw [hW]; exact Cs.new _ _ _ _ rfl
            have hpc := hgw.keep c0
            have HGW : Hid (Gr w W) := HG.out.trans hgw
            rw [← hW]
            clear hW hgw
            refine wp_region_held_drew (S := (fun w' => Gr W w' ∧ w'.cell? ⟨wr.heap.size, 0, none⟩ = some (.int .i64 q) ∧ w'.cell? ⟨wr.heap.size, 1, none⟩ = some (.int .i64 dd) ∧ w'.cell? ⟨wr.heap.size, 2, none⟩ = some (.int .i64 s) ∧ w'.cell? ⟨wr.heap.size, 3, none⟩ = some (.int .i64 k0) ∧ w'.cell? ⟨wr.heap.size, 4, none⟩ = some (.int .i64 r) ∧ w'.cell? ⟨wr.heap.size, 5, none⟩ = some (.int .i64 n) ∧ w'.cell? ⟨wr.heap.size, 6, none⟩ = some (.slice ax ll cx) ∧ w'.cell? ⟨wr.heap.size, 7, none⟩ = some (.string dt) ∧ w'.cell? ⟨wr.heap.size, 8, none⟩ = some (.int .i64 y) ∧ w'.cell? ⟨b, off + k * 9, none⟩ = some (.int .i64 q))) (by kernel_rfl) (by exact hold10 (by repeat(first|exact Gr.r _|refine Gr.a ?_|refine Gr.d ?_|refine Gr.t ?_ (by assumption))) hcs hpc) (fun hHeld => ?_)
            refine ty 0 18 hHeld ?_
            refine ty 1 19 hHeld ?_
            refine ty 2 20 hHeld ?_
            refine ty 3 21 hHeld ?_
            refine tn 4 22 hHeld ?_
            refine tn 5 23 hHeld ?_
            refine tn 6 24 hHeld ?_
            refine ty 7 25 hHeld ?_
            refine ty 8 26 hHeld ?_
            refine tn 9 27 hHeld ?_
            refine tn 10 28 hHeld ?_
            refine tn 11 29 hHeld ?_
            refine tn 12 30 hHeld ?_
            refine tn 13 31 hHeld ?_
            refine tn 14 32 hHeld ?_
            refine tn 15 33 hHeld ?_
            refine tn 16 34 hHeld ?_
            refine tn 17 35 hHeld ?_
            refine tn 18 36 hHeld ?_
            refine tn 19 37 hHeld ?_
            refine tn 20 38 hHeld ?_
            refine tn 21 39 hHeld ?_
            refine ty 22 40 hHeld ?_
            refine ty 23 41 hHeld ?_
            refine tn 24 42 hHeld ?_
            refine tn 25 43 hHeld ?_
            refine tn 26 44 hHeld ?_
            refine tn 27 45 hHeld ?_
            refine ty 28 46 hHeld ?_
            refine ty 29 47 hHeld ?_
            refine tn 30 48 hHeld ?_
            refine tn 31 49 hHeld ?_
            refine tn 32 50 hHeld ?_
            refine tn 33 51 hHeld ?_
            refine tn 34 52 hHeld ?_
            refine tn 35 53 hHeld ?_
            refine ty 36 54 hHeld ?_
            refine wpAnyH_done (by kernel_rfl) ?_ _
            go_wp2
            go_ret
            exact ⟨by rw [HF.out]; rfl, HGW.out.trans hHeld.1⟩
          · have u1a : decide (q < 1) = false := decide_eq_false u1
            have u1b : ¬ q ≤ 0 := by omega
            have u1c : decide (q ≤ 0) = false := decide_eq_false u1b
            by_cases u2 : 1000000000 < q
            · replace HF := Lib.hid (HF.out (by rw [HA.out, decide_eq_true u2]; simp))
              clear hck
              go_wp2_with fail
              obtain ⟨W, hW⟩ : ∃ W, W = wr.alloc (.cells #[.int .i64 q, .int .i64 dd, .int .i64 s, .int .i64 k0, .int .i64 r, .int .i64 n, .slice ax ll cx, .string dt, .int .i64 y] 73) := ⟨_, rfl⟩
              have hgw : Gr wr W := by rw [hW]; exact (Gr.refl _).alloc
              have hcs : Cs W wr.heap.size [.int .i64 q, .int .i64 dd, .int .i64 s, .int .i64 k0, .int .i64 r, .int .i64 n, .slice ax ll cx, .string dt, .int .i64 y] := by rw [hW]; exact Cs.new _ _ _ _ rfl
              have hpc := hgw.keep c0
              have HGW : Hid (Gr w W) := HG.out.trans hgw
              rw [← hW]
              clear hW hgw
              refine wp_region_held_drew (S := (fun w' => Gr W w' ∧ w'.cell? ⟨wr.heap.size, 0, none⟩ = some (.int .i64 q) ∧ w'.cell? ⟨wr.heap.size, 1, none⟩ = some (.int .i64 dd) ∧ w'.cell? ⟨wr.heap.size, 2, none⟩ = some (.int .i64 s) ∧ w'.cell? ⟨wr.heap.size, 3, none⟩ = some (.int .i64 k0) ∧ w'.cell? ⟨wr.heap.size, 4, none⟩ = some (.int .i64 r) ∧ w'.cell? ⟨wr.heap.size, 5, none⟩ = some (.int .i64 n) ∧ w'.cell? ⟨wr.heap.size, 6, none⟩ = some (.slice ax ll cx) ∧ w'.cell? ⟨wr.heap.size, 7, none⟩ = some (.string dt) ∧ w'.cell? ⟨wr.heap.size, 8, none⟩ = some (.int .i64 y) ∧ w'.cell? ⟨b, off + k * 9, none⟩ = some (.int .i64 q))) (by kernel_rfl) (by exact hold10 (by repeat(first|exact Gr.r _|refine Gr.a ?_|refine Gr.d ?_|refine Gr.t ?_ (by assumption))) hcs hpc) (fun hHeld => ?_)
              refine ty 0 18 hHeld ?_
              refine ty 1 19 hHeld ?_
              refine ty 2 20 hHeld ?_
              refine ty 3 21 hHeld ?_
              refine ty 4 22 hHeld ?_
              refine ty 5 23 hHeld ?_
              refine ty 6 24 hHeld ?_
              refine ty 7 25 hHeld ?_
              refine ty 8 26 hHeld ?_
              refine tn 9 27 hHeld ?_
              refine tn 10 28 hHeld ?_
              refine tn 11 29 hHeld ?_
              refine tn 12 30 hHeld ?_
              refine tn 13 31 hHeld ?_
              refine tn 14 32 hHeld ?_
              refine tn 15 33 hHeld ?_
              refine tn 16 34 hHeld ?_
              refine tn 17 35 hHeld ?_
              refine tn 18 36 hHeld ?_
              refine tn 19 37 hHeld ?_
              refine tn 20 38 hHeld ?_
              refine tn 21 39 hHeld ?_
              refine ty 22 40 hHeld ?_
              refine ty 23 41 hHeld ?_
              refine tn 24 42 hHeld ?_
              refine tn 25 43 hHeld ?_
              refine tn 26 44 hHeld ?_
              refine tn 27 45 hHeld ?_
              refine ty 28 46 hHeld ?_
              refine ty 29 47 hHeld ?_
              refine tn 30 48 hHeld ?_
              refine tn 31 49 hHeld ?_
              refine tn 32 50 hHeld ?_
              refine tn 33 51 hHeld ?_
              refine tn 34 52 hHeld ?_
              refine tn 35 53 hHeld ?_
              refine ty 36 54 hHeld ?_
              refine wpAnyH_done (by kernel_rfl) ?_ _
              go_wp2
              go_ret
              exact ⟨by rw [HF.out]; rfl, HGW.out.trans hHeld.1⟩
            · rw [decide_eq_false u1, decide_eq_false u2] at HA
              have u2a : decide (1000000000 < q) = false := decide_eq_false u2
              rcases hck with hck | hck
              · rw [hck] at HX HA
                clear hck
                cases B with
                | true =>
                  replace HF := Lib.hid (HF.out (by rw [HA.out]; simp))
                  go_wp2_with fail
                  obtain ⟨W, hW⟩ : ∃ W, W = wr.alloc (.cells #[.int .i64 q, .int .i64 dd, .int .i64 s, .int .i64 k0, .int .i64 r, .int .i64 n, .slice ax ll cx, .string dt, .int .i64 y] 73) := ⟨_, rfl⟩
                  have hgw : Gr wr W := by rw [hW]; exact (Gr.refl _).alloc
                  have hcs : Cs W wr.heap.size [.int .i64 q, .int .i64 dd, .int .i64 s, .int .i64 k0, .int .i64 r, .int .i64 n, .slice ax ll cx, .string dt, .int .i64 y] := by rw [hW]; exact Cs.new _ _ _ _ rfl
                  have hpc := hgw.keep c0
                  have HGW : Hid (Gr w W) := HG.out.trans hgw
                  rw [← hW]
                  clear hW hgw
                  refine wp_region_held_drew (S := (fun w' => Gr W w' ∧ w'.cell? ⟨wr.heap.size, 0, none⟩ = some (.int .i64 q) ∧ w'.cell? ⟨wr.heap.size, 1, none⟩ = some (.int .i64 dd) ∧ w'.cell? ⟨wr.heap.size, 2, none⟩ = some (.int .i64 s) ∧ w'.cell? ⟨wr.heap.size, 3, none⟩ = some (.int .i64 k0) ∧ w'.cell? ⟨wr.heap.size, 4, none⟩ = some (.int .i64 r) ∧ w'.cell? ⟨wr.heap.size, 5, none⟩ = some (.int .i64 n) ∧ w'.cell? ⟨wr.heap.size, 6, none⟩ = some (.slice ax ll cx) ∧ w'.cell? ⟨wr.heap.size, 7, none⟩ = some (.string dt) ∧ w'.cell? ⟨wr.heap.size, 8, none⟩ = some (.int .i64 y) ∧ w'.cell? ⟨b, off + k * 9, none⟩ = some (.int .i64 q))) (by kernel_rfl) (by exact hold10 (by repeat(first|exact Gr.r _|refine Gr.a ?_|refine Gr.d ?_|refine Gr.t ?_ (by assumption))) hcs hpc) (fun hHeld => ?_)
                  refine ty 0 18 hHeld ?_
                  refine ty 1 19 hHeld ?_
                  refine ty 2 20 hHeld ?_
                  refine ty 3 21 hHeld ?_
                  refine ty 4 22 hHeld ?_
                  refine ty 5 23 hHeld ?_
                  refine ty 6 24 hHeld ?_
                  refine ty 7 25 hHeld ?_
                  refine ty 8 26 hHeld ?_
                  refine ty 9 27 hHeld ?_
                  refine ty 10 28 hHeld ?_
                  refine ty 11 29 hHeld ?_
                  refine tn 12 30 hHeld ?_
                  refine tn 13 31 hHeld ?_
                  refine tn 14 32 hHeld ?_
                  refine tn 15 33 hHeld ?_
                  refine tn 16 34 hHeld ?_
                  refine tn 17 35 hHeld ?_
                  refine tn 18 36 hHeld ?_
                  refine tn 19 37 hHeld ?_
                  refine tn 20 38 hHeld ?_
                  refine ty 21 39 hHeld ?_
                  refine ty 22 40 hHeld ?_
                  refine ty 23 41 hHeld ?_
                  refine ty 24 42 hHeld ?_
                  refine ty 25 43 hHeld ?_
                  refine wpAnyH_ready (rs := [26]) (by kernel_rfl) (by simp) (AllReadyH.cons rfl (fun K hK => ?_) AllReadyH.nil)
                  go_simp
                  (go_at_call 46; refine (HX.out _ (HGW.out.trans (by repeat(first|exact Gr.r _|refine Gr.a ?_|refine Gr.d ?_|refine Gr.t ?_ (by assumption))))).mono ?_; rintro e wn ⟨rfl, hgn⟩)
                  (try go_wp2_with fail)
                  refine hK.out _ _ (by exact hold10 (by repeat(first|exact Gr.r _|refine Gr.a ?_|refine Gr.d ?_|refine Gr.t ?_ (by assumption))) hcs hpc) (fun hHeldN => ?_)
                  clear hHeld hK K
                  have hHeld := hHeldN
                  clear hHeldN
                  refine ty 27 45 hHeld ?_
                  refine ty 28 46 hHeld ?_
                  refine ty 29 47 hHeld ?_
                  refine ty 30 48 hHeld ?_
                  refine ty 31 49 hHeld ?_
                  refine ty 32 50 hHeld ?_
                  refine ty 33 51 hHeld ?_
                  refine ty 34 52 hHeld ?_
                  refine wpAnyH_ready (rs := [35]) (by kernel_rfl) (by simp) (AllReadyH.cons rfl (fun K hK => ?_) AllReadyH.nil)
                  go_simp
                  (go_at_call 50; refine (HH.out _ (HGW.out.trans (by repeat(first|exact Gr.r _|refine Gr.a ?_|refine Gr.d ?_|refine Gr.t ?_ (by assumption))))).mono ?_; rintro e2 wn2 ⟨rfl, hgn2⟩)
                  (try go_wp2_with fail)
                  refine hK.out _ _ (by exact hold10 (by repeat(first|exact Gr.r _|refine Gr.a ?_|refine Gr.d ?_|refine Gr.t ?_ (by assumption))) hcs hpc) (fun hHeldN => ?_)
                  clear hHeld hK K
                  have hHeld := hHeldN
                  clear hHeldN
                  refine ty 36 54 hHeld ?_
                  refine wpAnyH_done (by kernel_rfl) ?_ _
                  go_wp2
                  go_ret
                  exact ⟨by rw [HF.out]; rfl, HGW.out.trans hHeld.1⟩
                | false =>
                  go_wp2_with fail
                  obtain ⟨W, hW⟩ : ∃ W, W = wr.alloc (.cells #[.int .i64 q, .int .i64 dd, .int .i64 s, .int .i64 k0, .int .i64 r, .int .i64 n, .slice ax ll cx, .string dt, .int .i64 y] 73) := ⟨_, rfl⟩
                  have hgw : Gr wr W := by rw [hW]; exact (Gr.refl _).alloc
                  have hcs : Cs W wr.heap.size [.int .i64 q, .int .i64 dd, .int .i64 s, .int .i64 k0, .int .i64 r, .int .i64 n, .slice ax ll cx, .string dt, .int .i64 y] := by rw [hW]; exact Cs.new _ _ _ _ rfl
                  have hpc := hgw.keep c0
                  have HGW : Hid (Gr w W) := HG.out.trans hgw
                  rw [← hW]
                  clear hW hgw
                  refine wp_region_held_drew (S := (fun w' => Gr W w' ∧ w'.cell? ⟨wr.heap.size, 0, none⟩ = some (.int .i64 q) ∧ w'.cell? ⟨wr.heap.size, 1, none⟩ = some (.int .i64 dd) ∧ w'.cell? ⟨wr.heap.size, 2, none⟩ = some (.int .i64 s) ∧ w'.cell? ⟨wr.heap.size, 3, none⟩ = some (.int .i64 k0) ∧ w'.cell? ⟨wr.heap.size, 4, none⟩ = some (.int .i64 r) ∧ w'.cell? ⟨wr.heap.size, 5, none⟩ = some (.int .i64 n) ∧ w'.cell? ⟨wr.heap.size, 6, none⟩ = some (.slice ax ll cx) ∧ w'.cell? ⟨wr.heap.size, 7, none⟩ = some (.string dt) ∧ w'.cell? ⟨wr.heap.size, 8, none⟩ = some (.int .i64 y) ∧ w'.cell? ⟨b, off + k * 9, none⟩ = some (.int .i64 q))) (by kernel_rfl) (by exact hold10 (by repeat(first|exact Gr.r _|refine Gr.a ?_|refine Gr.d ?_|refine Gr.t ?_ (by assumption))) hcs hpc) (fun hHeld => ?_)
                  refine ty 0 18 hHeld ?_
                  refine ty 1 19 hHeld ?_
                  refine ty 2 20 hHeld ?_
                  refine ty 3 21 hHeld ?_
                  refine ty 4 22 hHeld ?_
                  refine ty 5 23 hHeld ?_
                  refine ty 6 24 hHeld ?_
                  refine ty 7 25 hHeld ?_
                  refine ty 8 26 hHeld ?_
                  refine ty 9 27 hHeld ?_
                  refine ty 10 28 hHeld ?_
                  refine ty 11 29 hHeld ?_
                  refine tn 12 30 hHeld ?_
                  refine tn 13 31 hHeld ?_
                  refine tn 14 32 hHeld ?_
                  refine tn 15 33 hHeld ?_
                  refine tn 16 34 hHeld ?_
                  refine tn 17 35 hHeld ?_
                  refine tn 18 36 hHeld ?_
                  refine tn 19 37 hHeld ?_
                  refine tn 20 38 hHeld ?_
                  refine ty 21 39 hHeld ?_
                  refine ty 22 40 hHeld ?_
                  refine ty 23 41 hHeld ?_
                  refine ty 24 42 hHeld ?_
                  refine ty 25 43 hHeld ?_
                  refine wpAnyH_ready (rs := [26]) (by kernel_rfl) (by simp) (AllReadyH.cons rfl (fun K hK => ?_) AllReadyH.nil)
                  go_simp
                  (go_at_call 46; refine (HX.out _ (HGW.out.trans (by repeat(first|exact Gr.r _|refine Gr.a ?_|refine Gr.d ?_|refine Gr.t ?_ (by assumption))))).mono ?_; rintro e wn ⟨rfl, hgn⟩)
                  (try go_wp2_with fail)
                  refine hK.out _ _ (by exact hold10 (by repeat(first|exact Gr.r _|refine Gr.a ?_|refine Gr.d ?_|refine Gr.t ?_ (by assumption))) hcs hpc) (fun hHeldN => ?_)
                  clear hHeld hK K
                  have hHeld := hHeldN
                  clear hHeldN
                  refine ty 27 45 hHeld ?_
                  refine ty 28 46 hHeld ?_
                  refine ty 29 47 hHeld ?_
                  refine ty 30 48 hHeld ?_
                  refine ty 31 49 hHeld ?_
                  refine ty 32 50 hHeld ?_
                  refine ty 33 51 hHeld ?_
                  refine ty 34 52 hHeld ?_
                  refine wpAnyH_ready (rs := [35]) (by kernel_rfl) (by simp) (AllReadyH.cons rfl (fun K hK => ?_) AllReadyH.nil)
                  go_simp
                  (go_at_call 50; refine (HH.out _ (HGW.out.trans (by repeat(first|exact Gr.r _|refine Gr.a ?_|refine Gr.d ?_|refine Gr.t ?_ (by assumption))))).mono ?_; rintro e2 wn2 ⟨rfl, hgn2⟩)
                  (try go_wp2_with fail)
                  refine hK.out _ _ (by exact hold10 (by repeat(first|exact Gr.r _|refine Gr.a ?_|refine Gr.d ?_|refine Gr.t ?_ (by assumption))) hcs hpc) (fun hHeldN => ?_)
                  clear hHeld hK K
                  have hHeld := hHeldN
                  clear hHeldN
                  refine ty 36 54 hHeld ?_
                  refine wpAnyH_done (by kernel_rfl) ?_ _
                  obtain ⟨hgE, e0, e1, e2, e3, e4, e5, e6, e7, e8, e9⟩ := hHeld
                  have HGE : Hid (Gr w wn2) := HGW.out.trans hgE
                  have hbl2 : wr.heap.size < wn2.heap.size := World.block_lt_of_cell? wn2 _ e1
                  clear e0 e3 e4 e5 e6 e7 e8 e9 hgE
                  cases hT : (decide (0 ≤ dd ∧ dd ≤ 1000000016) && decide (0 ≤ s ∧ s ≤ 1000000)) with
                  | false =>
                    replace HF := Lib.hid (HF.out (by rw [HA.out, hT]; simp))
                    by_cases t1 : dd < 0
                    · go_wp2
                      go_ret
                      exact ⟨by rw [HF.out]; rfl, HGE.out⟩
                    · by_cases t2 : 1000000016 < dd
                      · go_wp2
                        go_ret
                        exact ⟨by rw [HF.out]; rfl, HGE.out⟩
                      · by_cases t3 : s < 0
                        · go_wp2
                          go_ret
                          exact ⟨by rw [HF.out]; rfl, HGE.out⟩
                        · have t4 : 1000000 < s := by
                            rw [decide_eq_true (show 0 ≤ dd ∧ dd ≤ 1000000016 by omega), Bool.true_and, decide_eq_false_iff_not] at hT
                            omega
                          go_wp2
                          go_ret
                          exact ⟨by rw [HF.out]; rfl, HGE.out⟩
                  | true =>
                    replace HNX := Lib.hid (HNX.out (by rw [HA.out, hT]; rfl))
                    rw [Bool.and_eq_true, decide_eq_true_eq, decide_eq_true_eq] at hT
                    have t1 : ¬ dd < 0 := by omega
                    have t2 : ¬ 1000000016 < dd := by omega
                    have t3 : ¬ s < 0 := by omega
                    have t4 : ¬ 1000000 < s := by omega
                    clear hT HA
                    go_wp2
                    go_roundw
                    case rel => exact ⟨k + 1, by go_num, by omega, HNX.out, HGE.out⟩
                    case measure => simp [intOf]; omega
              · rw [hck] at HX HA
                clear hck
                replace HF := Lib.hid (HF.out (by rw [HA.out]; simp))
                go_wp2_with fail
                obtain ⟨W, hW⟩ : ∃ W, W = wr.alloc (.cells #[.int .i64 q, .int .i64 dd, .int .i64 s, .int .i64 k0, .int .i64 r, .int .i64 n, .slice ax ll cx, .string dt, .int .i64 y] 73) := ⟨_, rfl⟩
                have hgw : Gr wr W := by rw [hW]; exact (Gr.refl _).alloc
                have hcs : Cs W wr.heap.size [.int .i64 q, .int .i64 dd, .int .i64 s, .int .i64 k0, .int .i64 r, .int .i64 n, .slice ax ll cx, .string dt, .int .i64 y] := by rw [hW]; exact Cs.new _ _ _ _ rfl
                have hpc := hgw.keep c0
                have HGW : Hid (Gr w W) := HG.out.trans hgw
                rw [← hW]
                clear hW hgw
                refine wp_region_held_drew (S := (fun w' => Gr W w' ∧ w'.cell? ⟨wr.heap.size, 0, none⟩ = some (.int .i64 q) ∧ w'.cell? ⟨wr.heap.size, 1, none⟩ = some (.int .i64 dd) ∧ w'.cell? ⟨wr.heap.size, 2, none⟩ = some (.int .i64 s) ∧ w'.cell? ⟨wr.heap.size, 3, none⟩ = some (.int .i64 k0) ∧ w'.cell? ⟨wr.heap.size, 4, none⟩ = some (.int .i64 r) ∧ w'.cell? ⟨wr.heap.size, 5, none⟩ = some (.int .i64 n) ∧ w'.cell? ⟨wr.heap.size, 6, none⟩ = some (.slice ax ll cx) ∧ w'.cell? ⟨wr.heap.size, 7, none⟩ = some (.string dt) ∧ w'.cell? ⟨wr.heap.size, 8, none⟩ = some (.int .i64 y) ∧ w'.cell? ⟨b, off + k * 9, none⟩ = some (.int .i64 q))) (by kernel_rfl) (by exact hold10 (by repeat(first|exact Gr.r _|refine Gr.a ?_|refine Gr.d ?_|refine Gr.t ?_ (by assumption))) hcs hpc) (fun hHeld => ?_)
                refine ty 0 18 hHeld ?_
                refine ty 1 19 hHeld ?_
                refine ty 2 20 hHeld ?_
                refine ty 3 21 hHeld ?_
                refine ty 4 22 hHeld ?_
                refine ty 5 23 hHeld ?_
                refine ty 6 24 hHeld ?_
                refine ty 7 25 hHeld ?_
                refine ty 8 26 hHeld ?_
                refine ty 9 27 hHeld ?_
                refine ty 10 28 hHeld ?_
                refine ty 11 29 hHeld ?_
                refine tn 12 30 hHeld ?_
                refine tn 13 31 hHeld ?_
                refine tn 14 32 hHeld ?_
                refine tn 15 33 hHeld ?_
                refine tn 16 34 hHeld ?_
                refine tn 17 35 hHeld ?_
                refine tn 18 36 hHeld ?_
                refine tn 19 37 hHeld ?_
                refine tn 20 38 hHeld ?_
                refine ty 21 39 hHeld ?_
                refine ty 22 40 hHeld ?_
                refine ty 23 41 hHeld ?_
                refine ty 24 42 hHeld ?_
                refine ty 25 43 hHeld ?_
                refine wpAnyH_ready (rs := [26]) (by kernel_rfl) (by simp) (AllReadyH.cons rfl (fun K hK => ?_) AllReadyH.nil)
                go_simp
                (go_at_call 46; refine (HX.out _ (HGW.out.trans (by repeat(first|exact Gr.r _|refine Gr.a ?_|refine Gr.d ?_|refine Gr.t ?_ (by assumption))))).mono ?_; rintro e wn ⟨rfl, hgn⟩)
                (try go_wp2_with fail)
                refine hK.out _ _ (by exact hold10 (by repeat(first|exact Gr.r _|refine Gr.a ?_|refine Gr.d ?_|refine Gr.t ?_ (by assumption))) hcs hpc) (fun hHeldN => ?_)
                clear hHeld hK K
                have hHeld := hHeldN
                clear hHeldN
                refine ty 27 45 hHeld ?_
                refine ty 28 46 hHeld ?_
                refine ty 29 47 hHeld ?_
                refine tn 30 48 hHeld ?_
                refine tn 31 49 hHeld ?_
                refine tn 32 50 hHeld ?_
                refine tn 33 51 hHeld ?_
                refine tn 34 52 hHeld ?_
                refine tn 35 53 hHeld ?_
                refine ty 36 54 hHeld ?_
                refine wpAnyH_done (by kernel_rfl) ?_ _
                go_wp2
                go_ret
                exact ⟨by rw [HF.out]; rfl, HGW.out.trans hHeld.1⟩
        · obtain ⟨k1, hk1⟩ : ∃ k1, k = k1 + 1 := ⟨k - 1, by omega⟩
          have hlt1 : k1 < D.length := by omega
          have HA : Hid (Ox.at_ okN (its D) k = (!decide (D[k].q < 1) && !decide (1000000000 < D[k].q) && (Nt.ckE D[k].m.x == 0) && (decide (0 ≤ D[k].d ∧ D[k].d ≤ 1000000016) && decide (0 ≤ D[k].s ∧ D[k].s ≤ 1000000)) && !decide (D[k].q ≤ D[k1].q) && !Ox.among (its (D.take k)) (pk D[k].m.x))) := by
            show _ = _
            rw [← hO]
            subst hk1
            exact at_succ hlt
          obtain ⟨_, _, e, _, c0, _⟩ := ItsRow.at HD.out k1 hlt1
          cases e
          have c0 := hg.keep c0
          have hz1 : decide ((0 : Int) < (k : Int)) = true := by simp; omega
          have hz2 : decide (0 < k) = true := by simp; omega
          have hz3 : IntKind.i64.wrap (k1 : Int) = (k1 : Int) := by rw [IntKind.wrap_i64]; omega
          have hz4 : (k : Int) - 1 = (k1 : Int) := by omega
          have hz5 : (k1 : Int) < (D.length : Int) := by omega
          clear hk0 hg HX0 HH0 HE0 HE1 HK hk1 hO
          generalize Ox.at_ okN (its D) k = A at *
          generalize D[k1].q = q1 at *
          generalize D[k] = x at *
          generalize Ox.among (its (D.take k)) (pk x.m.x) = B at *
          obtain ⟨q, dd, s, ⟨⟨k0, r, n, L, dt, y⟩, ax, cx⟩⟩ := x
          dsimp only [Mn.v, Mi.v] at *
          generalize Nt.ckE ⟨k0, r, n, L, dt, y⟩ = ck at *
          generalize L.length = ll at *
          by_cases u1 : q < 1
          · replace HF := Lib.hid (HF.out (by rw [HA.out, decide_eq_true u1]; simp))
            clear hck
            go_wp2_with fail
            obtain ⟨W, hW⟩ : ∃ W, W = wr.alloc (.cells #[.int .i64 q, .int .i64 dd, .int .i64 s, .int .i64 k0, .int .i64 r, .int .i64 n, .slice ax ll cx, .string dt, .int .i64 y] 73) := ⟨_, rfl⟩
            have hgw : Gr wr W := by rw [hW]; exact (Gr.refl _).alloc
            have hcs : Cs W wr.heap.size [.int .i64 q, .int .i64 dd, .int .i64 s, .int .i64 k0, .int .i64 r, .int .i64 n, .slice ax ll cx, .string dt, .int .i64 y] := by rw [hW]; exact Cs.new _ _ _ _ rfl
            have hpc := hgw.keep c0
            have HGW : Hid (Gr w W) := HG.out.trans hgw
            rw [← hW]
            clear hW hgw
            refine wp_region_held_drew (S := (fun w' => Gr W w' ∧ w'.cell? ⟨wr.heap.size, 0, none⟩ = some (.int .i64 q) ∧ w'.cell? ⟨wr.heap.size, 1, none⟩ = some (.int .i64 dd) ∧ w'.cell? ⟨wr.heap.size, 2, none⟩ = some (.int .i64 s) ∧ w'.cell? ⟨wr.heap.size, 3, none⟩ = some (.int .i64 k0) ∧ w'.cell? ⟨wr.heap.size, 4, none⟩ = some (.int .i64 r) ∧ w'.cell? ⟨wr.heap.size, 5, none⟩ = some (.int .i64 n) ∧ w'.cell? ⟨wr.heap.size, 6, none⟩ = some (.slice ax ll cx) ∧ w'.cell? ⟨wr.heap.size, 7, none⟩ = some (.string dt) ∧ w'.cell? ⟨wr.heap.size, 8, none⟩ = some (.int .i64 y) ∧ w'.cell? ⟨b, off + k1 * 9, none⟩ = some (.int .i64 q1))) (by kernel_rfl) (by exact hold10 (by repeat(first|exact Gr.r _|refine Gr.a ?_|refine Gr.d ?_|refine Gr.t ?_ (by assumption))) hcs hpc) (fun hHeld => ?_)
            refine ty 0 18 hHeld ?_
            refine ty 1 19 hHeld ?_
            refine ty 2 20 hHeld ?_
            refine ty 3 21 hHeld ?_
            refine tn 4 22 hHeld ?_
            refine tn 5 23 hHeld ?_
            refine tn 6 24 hHeld ?_
            refine ty 7 25 hHeld ?_
            refine ty 8 26 hHeld ?_
            refine tn 9 27 hHeld ?_
            refine tn 10 28 hHeld ?_
            refine tn 11 29 hHeld ?_
            refine tn 12 30 hHeld ?_
            refine tn 13 31 hHeld ?_
            refine tn 14 32 hHeld ?_
            refine tn 15 33 hHeld ?_
            refine tn 16 34 hHeld ?_
            refine tn 17 35 hHeld ?_
            refine tn 18 36 hHeld ?_
            refine tn 19 37 hHeld ?_
            refine tn 20 38 hHeld ?_
            refine tn 21 39 hHeld ?_
            refine ty 22 40 hHeld ?_
            refine ty 23 41 hHeld ?_
            refine tn 24 42 hHeld ?_
            refine tn 25 43 hHeld ?_
            refine tn 26 44 hHeld ?_
            refine tn 27 45 hHeld ?_
            refine ty 28 46 hHeld ?_
            refine ty 29 47 hHeld ?_
            refine tn 30 48 hHeld ?_
            refine tn 31 49 hHeld ?_
            refine tn 32 50 hHeld ?_
            refine tn 33 51 hHeld ?_
            refine tn 34 52 hHeld ?_
            refine tn 35 53 hHeld ?_
            refine ty 36 54 hHeld ?_
            refine wpAnyH_done (by kernel_rfl) ?_ _
            go_wp2
            go_ret
            exact ⟨by rw [HF.out]; rfl, HGW.out.trans hHeld.1⟩
          · have u1a : decide (q < 1) = false := decide_eq_false u1
            have u1b : ¬ q ≤ 0 := by omega
            have u1c : decide (q ≤ 0) = false := decide_eq_false u1b
            by_cases u2 : 1000000000 < q
            · replace HF := Lib.hid (HF.out (by rw [HA.out, decide_eq_true u2]; simp))
              clear hck
              go_wp2_with fail
              obtain ⟨W, hW⟩ : ∃ W, W = wr.alloc (.cells #[.int .i64 q, .int .i64 dd, .int .i64 s, .int .i64 k0, .int .i64 r, .int .i64 n, .slice ax ll cx, .string dt, .int .i64 y] 73) := ⟨_, rfl⟩
              have hgw : Gr wr W := by rw [hW]; exact (Gr.refl _).alloc
              have hcs : Cs W wr.heap.size [.int .i64 q, .int .i64 dd, .int .i64 s, .int .i64 k0, .int .i64 r, .int .i64 n, .slice ax ll cx, .string dt, .int .i64 y] := by rw [hW]; exact Cs.new _ _ _ _ rfl
              have hpc := hgw.keep c0
              have HGW : Hid (Gr w W) := HG.out.trans hgw
              rw [← hW]
              clear hW hgw
              refine wp_region_held_drew (S := (fun w' => Gr W w' ∧ w'.cell? ⟨wr.heap.size, 0, none⟩ = some (.int .i64 q) ∧ w'.cell? ⟨wr.heap.size, 1, none⟩ = some (.int .i64 dd) ∧ w'.cell? ⟨wr.heap.size, 2, none⟩ = some (.int .i64 s) ∧ w'.cell? ⟨wr.heap.size, 3, none⟩ = some (.int .i64 k0) ∧ w'.cell? ⟨wr.heap.size, 4, none⟩ = some (.int .i64 r) ∧ w'.cell? ⟨wr.heap.size, 5, none⟩ = some (.int .i64 n) ∧ w'.cell? ⟨wr.heap.size, 6, none⟩ = some (.slice ax ll cx) ∧ w'.cell? ⟨wr.heap.size, 7, none⟩ = some (.string dt) ∧ w'.cell? ⟨wr.heap.size, 8, none⟩ = some (.int .i64 y) ∧ w'.cell? ⟨b, off + k1 * 9, none⟩ = some (.int .i64 q1))) (by kernel_rfl) (by exact hold10 (by repeat(first|exact Gr.r _|refine Gr.a ?_|refine Gr.d ?_|refine Gr.t ?_ (by assumption))) hcs hpc) (fun hHeld => ?_)
              refine ty 0 18 hHeld ?_
              refine ty 1 19 hHeld ?_
              refine ty 2 20 hHeld ?_
              refine ty 3 21 hHeld ?_
              refine ty 4 22 hHeld ?_
              refine ty 5 23 hHeld ?_
              refine ty 6 24 hHeld ?_
              refine ty 7 25 hHeld ?_
              refine ty 8 26 hHeld ?_
              refine tn 9 27 hHeld ?_
              refine tn 10 28 hHeld ?_
              refine tn 11 29 hHeld ?_
              refine tn 12 30 hHeld ?_
              refine tn 13 31 hHeld ?_
              refine tn 14 32 hHeld ?_
              refine tn 15 33 hHeld ?_
              refine tn 16 34 hHeld ?_
              refine tn 17 35 hHeld ?_
              refine tn 18 36 hHeld ?_
              refine tn 19 37 hHeld ?_
              refine tn 20 38 hHeld ?_
              refine tn 21 39 hHeld ?_
              refine ty 22 40 hHeld ?_
              refine ty 23 41 hHeld ?_
              refine tn 24 42 hHeld ?_
              refine tn 25 43 hHeld ?_
              refine tn 26 44 hHeld ?_
              refine tn 27 45 hHeld ?_
              refine ty 28 46 hHeld ?_
              refine ty 29 47 hHeld ?_
              refine tn 30 48 hHeld ?_
              refine tn 31 49 hHeld ?_
              refine tn 32 50 hHeld ?_
              refine tn 33 51 hHeld ?_
              refine tn 34 52 hHeld ?_
              refine tn 35 53 hHeld ?_
              refine ty 36 54 hHeld ?_
              refine wpAnyH_done (by kernel_rfl) ?_ _
              go_wp2
              go_ret
              exact ⟨by rw [HF.out]; rfl, HGW.out.trans hHeld.1⟩
            · rw [decide_eq_false u1, decide_eq_false u2] at HA
              have u2a : decide (1000000000 < q) = false := decide_eq_false u2
              cases hC : decide (q ≤ q1) with
              | true =>
                rw [hC] at HA
                replace HF := Lib.hid (HF.out (by rw [HA.out]; simp))
                clear hck
                go_wp2_with fail
                obtain ⟨W, hW⟩ : ∃ W, W = wr.alloc (.cells #[.int .i64 q, .int .i64 dd, .int .i64 s, .int .i64 k0, .int .i64 r, .int .i64 n, .slice ax ll cx, .string dt, .int .i64 y] 73) := ⟨_, rfl⟩
                have hgw : Gr wr W := by rw [hW]; exact (Gr.refl _).alloc
                have hcs : Cs W wr.heap.size [.int .i64 q, .int .i64 dd, .int .i64 s, .int .i64 k0, .int .i64 r, .int .i64 n, .slice ax ll cx, .string dt, .int .i64 y] := by rw [hW]; exact Cs.new _ _ _ _ rfl
                have hpc := hgw.keep c0
                have HGW : Hid (Gr w W) := HG.out.trans hgw
                rw [← hW]
                clear hW hgw
                refine wp_region_held_drew (S := (fun w' => Gr W w' ∧ w'.cell? ⟨wr.heap.size, 0, none⟩ = some (.int .i64 q) ∧ w'.cell? ⟨wr.heap.size, 1, none⟩ = some (.int .i64 dd) ∧ w'.cell? ⟨wr.heap.size, 2, none⟩ = some (.int .i64 s) ∧ w'.cell? ⟨wr.heap.size, 3, none⟩ = some (.int .i64 k0) ∧ w'.cell? ⟨wr.heap.size, 4, none⟩ = some (.int .i64 r) ∧ w'.cell? ⟨wr.heap.size, 5, none⟩ = some (.int .i64 n) ∧ w'.cell? ⟨wr.heap.size, 6, none⟩ = some (.slice ax ll cx) ∧ w'.cell? ⟨wr.heap.size, 7, none⟩ = some (.string dt) ∧ w'.cell? ⟨wr.heap.size, 8, none⟩ = some (.int .i64 y) ∧ w'.cell? ⟨b, off + k1 * 9, none⟩ = some (.int .i64 q1))) (by kernel_rfl) (by exact hold10 (by repeat(first|exact Gr.r _|refine Gr.a ?_|refine Gr.d ?_|refine Gr.t ?_ (by assumption))) hcs hpc) (fun hHeld => ?_)
                refine ty 0 18 hHeld ?_
                refine ty 1 19 hHeld ?_
                refine ty 2 20 hHeld ?_
                refine ty 3 21 hHeld ?_
                refine ty 4 22 hHeld ?_
                refine ty 5 23 hHeld ?_
                refine ty 6 24 hHeld ?_
                refine ty 7 25 hHeld ?_
                refine ty 8 26 hHeld ?_
                refine ty 9 27 hHeld ?_
                refine ty 10 28 hHeld ?_
                refine ty 11 29 hHeld ?_
                refine ty 12 30 hHeld ?_
                refine ty 13 31 hHeld ?_
                refine ty 14 32 hHeld ?_
                refine ty 15 33 hHeld ?_
                refine ty 16 34 hHeld ?_
                refine ty 17 35 hHeld ?_
                refine ty 18 36 hHeld ?_
                refine ty 19 37 hHeld ?_
                refine ty 20 38 hHeld ?_
                refine ty 21 39 hHeld ?_
                refine ty 22 40 hHeld ?_
                refine ty 23 41 hHeld ?_
                refine tn 24 42 hHeld ?_
                refine tn 25 43 hHeld ?_
                refine tn 26 44 hHeld ?_
                refine tn 27 45 hHeld ?_
                refine ty 28 46 hHeld ?_
                refine ty 29 47 hHeld ?_
                refine tn 30 48 hHeld ?_
                refine tn 31 49 hHeld ?_
                refine tn 32 50 hHeld ?_
                refine tn 33 51 hHeld ?_
                refine tn 34 52 hHeld ?_
                refine tn 35 53 hHeld ?_
                refine ty 36 54 hHeld ?_
                refine wpAnyH_done (by kernel_rfl) ?_ _
                go_wp2
                go_ret
                exact ⟨by rw [HF.out]; rfl, HGW.out.trans hHeld.1⟩
              | false =>
                rw [hC] at HA
                rcases hck with hck | hck
                · rw [hck] at HX HA
                  clear hck
                  cases B with
                  | true =>
                    replace HF := Lib.hid (HF.out (by rw [HA.out]; simp))
                    go_wp2_with fail
                    obtain ⟨W, hW⟩ : ∃ W, W = wr.alloc (.cells #[.int .i64 q, .int .i64 dd, .int .i64 s, .int .i64 k0, .int .i64 r, .int .i64 n, .slice ax ll cx, .string dt, .int .i64 y] 73) := ⟨_, rfl⟩
                    have hgw : Gr wr W := by rw [hW]; exact (Gr.refl _).alloc
                    have hcs : Cs W wr.heap.size [.int .i64 q, .int .i64 dd, .int .i64 s, .int .i64 k0, .int .i64 r, .int .i64 n, .slice ax ll cx, .string dt, .int .i64 y] := by rw [hW]; exact Cs.new _ _ _ _ rfl
                    have hpc := hgw.keep c0
                    have HGW : Hid (Gr w W) := HG.out.trans hgw
                    rw [← hW]
                    clear hW hgw
                    refine wp_region_held_drew (S := (fun w' => Gr W w' ∧ w'.cell? ⟨wr.heap.size, 0, none⟩ = some (.int .i64 q) ∧ w'.cell? ⟨wr.heap.size, 1, none⟩ = some (.int .i64 dd) ∧ w'.cell? ⟨wr.heap.size, 2, none⟩ = some (.int .i64 s) ∧ w'.cell? ⟨wr.heap.size, 3, none⟩ = some (.int .i64 k0) ∧ w'.cell? ⟨wr.heap.size, 4, none⟩ = some (.int .i64 r) ∧ w'.cell? ⟨wr.heap.size, 5, none⟩ = some (.int .i64 n) ∧ w'.cell? ⟨wr.heap.size, 6, none⟩ = some (.slice ax ll cx) ∧ w'.cell? ⟨wr.heap.size, 7, none⟩ = some (.string dt) ∧ w'.cell? ⟨wr.heap.size, 8, none⟩ = some (.int .i64 y) ∧ w'.cell? ⟨b, off + k1 * 9, none⟩ = some (.int .i64 q1))) (by kernel_rfl) (by exact hold10 (by repeat(first|exact Gr.r _|refine Gr.a ?_|refine Gr.d ?_|refine Gr.t ?_ (by assumption))) hcs hpc) (fun hHeld => ?_)
                    refine ty 0 18 hHeld ?_
                    refine ty 1 19 hHeld ?_
                    refine ty 2 20 hHeld ?_
                    refine ty 3 21 hHeld ?_
                    refine ty 4 22 hHeld ?_
                    refine ty 5 23 hHeld ?_
                    refine ty 6 24 hHeld ?_
                    refine ty 7 25 hHeld ?_
                    refine ty 8 26 hHeld ?_
                    refine ty 9 27 hHeld ?_
                    refine ty 10 28 hHeld ?_
                    refine ty 11 29 hHeld ?_
                    refine ty 12 30 hHeld ?_
                    refine ty 13 31 hHeld ?_
                    refine ty 14 32 hHeld ?_
                    refine ty 15 33 hHeld ?_
                    refine ty 16 34 hHeld ?_
                    refine ty 17 35 hHeld ?_
                    refine ty 18 36 hHeld ?_
                    refine ty 19 37 hHeld ?_
                    refine ty 20 38 hHeld ?_
                    refine ty 21 39 hHeld ?_
                    refine ty 22 40 hHeld ?_
                    refine ty 23 41 hHeld ?_
                    refine ty 24 42 hHeld ?_
                    refine ty 25 43 hHeld ?_
                    refine wpAnyH_ready (rs := [26]) (by kernel_rfl) (by simp) (AllReadyH.cons rfl (fun K hK => ?_) AllReadyH.nil)
                    go_simp
                    (go_at_call 46; refine (HX.out _ (HGW.out.trans (by repeat(first|exact Gr.r _|refine Gr.a ?_|refine Gr.d ?_|refine Gr.t ?_ (by assumption))))).mono ?_; rintro e wn ⟨rfl, hgn⟩)
                    (try go_wp2_with fail)
                    refine hK.out _ _ (by exact hold10 (by repeat(first|exact Gr.r _|refine Gr.a ?_|refine Gr.d ?_|refine Gr.t ?_ (by assumption))) hcs hpc) (fun hHeldN => ?_)
                    clear hHeld hK K
                    have hHeld := hHeldN
                    clear hHeldN
                    refine ty 27 45 hHeld ?_
                    refine ty 28 46 hHeld ?_
                    refine ty 29 47 hHeld ?_
                    refine ty 30 48 hHeld ?_
                    refine ty 31 49 hHeld ?_
                    refine ty 32 50 hHeld ?_
                    refine ty 33 51 hHeld ?_
                    refine ty 34 52 hHeld ?_
                    refine wpAnyH_ready (rs := [35]) (by kernel_rfl) (by simp) (AllReadyH.cons rfl (fun K hK => ?_) AllReadyH.nil)
                    go_simp
                    (go_at_call 50; refine (HH.out _ (HGW.out.trans (by repeat(first|exact Gr.r _|refine Gr.a ?_|refine Gr.d ?_|refine Gr.t ?_ (by assumption))))).mono ?_; rintro e2 wn2 ⟨rfl, hgn2⟩)
                    (try go_wp2_with fail)
                    refine hK.out _ _ (by exact hold10 (by repeat(first|exact Gr.r _|refine Gr.a ?_|refine Gr.d ?_|refine Gr.t ?_ (by assumption))) hcs hpc) (fun hHeldN => ?_)
                    clear hHeld hK K
                    have hHeld := hHeldN
                    clear hHeldN
                    refine ty 36 54 hHeld ?_
                    refine wpAnyH_done (by kernel_rfl) ?_ _
                    go_wp2
                    go_ret
                    exact ⟨by rw [HF.out]; rfl, HGW.out.trans hHeld.1⟩
                  | false =>
                    go_wp2_with fail
                    obtain ⟨W, hW⟩ : ∃ W, W = wr.alloc (.cells #[.int .i64 q, .int .i64 dd, .int .i64 s, .int .i64 k0, .int .i64 r, .int .i64 n, .slice ax ll cx, .string dt, .int .i64 y] 73) := ⟨_, rfl⟩
                    have hgw : Gr wr W := by rw [hW]; exact (Gr.refl _).alloc
                    have hcs : Cs W wr.heap.size [.int .i64 q, .int .i64 dd, .int .i64 s, .int .i64 k0, .int .i64 r, .int .i64 n, .slice ax ll cx, .string dt, .int .i64 y] := by rw [hW]; exact Cs.new _ _ _ _ rfl
                    have hpc := hgw.keep c0
                    have HGW : Hid (Gr w W) := HG.out.trans hgw
                    rw [← hW]
                    clear hW hgw
                    refine wp_region_held_drew (S := (fun w' => Gr W w' ∧ w'.cell? ⟨wr.heap.size, 0, none⟩ = some (.int .i64 q) ∧ w'.cell? ⟨wr.heap.size, 1, none⟩ = some (.int .i64 dd) ∧ w'.cell? ⟨wr.heap.size, 2, none⟩ = some (.int .i64 s) ∧ w'.cell? ⟨wr.heap.size, 3, none⟩ = some (.int .i64 k0) ∧ w'.cell? ⟨wr.heap.size, 4, none⟩ = some (.int .i64 r) ∧ w'.cell? ⟨wr.heap.size, 5, none⟩ = some (.int .i64 n) ∧ w'.cell? ⟨wr.heap.size, 6, none⟩ = some (.slice ax ll cx) ∧ w'.cell? ⟨wr.heap.size, 7, none⟩ = some (.string dt) ∧ w'.cell? ⟨wr.heap.size, 8, none⟩ = some (.int .i64 y) ∧ w'.cell? ⟨b, off + k1 * 9, none⟩ = some (.int .i64 q1))) (by kernel_rfl) (by exact hold10 (by repeat(first|exact Gr.r _|refine Gr.a ?_|refine Gr.d ?_|refine Gr.t ?_ (by assumption))) hcs hpc) (fun hHeld => ?_)
                    refine ty 0 18 hHeld ?_
                    refine ty 1 19 hHeld ?_
                    refine ty 2 20 hHeld ?_
                    refine ty 3 21 hHeld ?_
                    refine ty 4 22 hHeld ?_
                    refine ty 5 23 hHeld ?_
                    refine ty 6 24 hHeld ?_
                    refine ty 7 25 hHeld ?_
                    refine ty 8 26 hHeld ?_
                    refine ty 9 27 hHeld ?_
                    refine ty 10 28 hHeld ?_
                    refine ty 11 29 hHeld ?_
                    refine ty 12 30 hHeld ?_
                    refine ty 13 31 hHeld ?_
                    refine ty 14 32 hHeld ?_
                    refine ty 15 33 hHeld ?_
                    refine ty 16 34 hHeld ?_
                    refine ty 17 35 hHeld ?_
                    refine ty 18 36 hHeld ?_
                    refine ty 19 37 hHeld ?_
                    refine ty 20 38 hHeld ?_
                    refine ty 21 39 hHeld ?_
                    refine ty 22 40 hHeld ?_
                    refine ty 23 41 hHeld ?_
                    refine ty 24 42 hHeld ?_
                    refine ty 25 43 hHeld ?_
                    refine wpAnyH_ready (rs := [26]) (by kernel_rfl) (by simp) (AllReadyH.cons rfl (fun K hK => ?_) AllReadyH.nil)
                    go_simp
                    (go_at_call 46; refine (HX.out _ (HGW.out.trans (by repeat(first|exact Gr.r _|refine Gr.a ?_|refine Gr.d ?_|refine Gr.t ?_ (by assumption))))).mono ?_; rintro e wn ⟨rfl, hgn⟩)
                    (try go_wp2_with fail)
                    refine hK.out _ _ (by exact hold10 (by repeat(first|exact Gr.r _|refine Gr.a ?_|refine Gr.d ?_|refine Gr.t ?_ (by assumption))) hcs hpc) (fun hHeldN => ?_)
                    clear hHeld hK K
                    have hHeld := hHeldN
                    clear hHeldN
                    refine ty 27 45 hHeld ?_
                    refine ty 28 46 hHeld ?_
                    refine ty 29 47 hHeld ?_
                    refine ty 30 48 hHeld ?_
                    refine ty 31 49 hHeld ?_
                    refine ty 32 50 hHeld ?_
                    refine ty 33 51 hHeld ?_
                    refine ty 34 52 hHeld ?_
                    refine wpAnyH_ready (rs := [35]) (by kernel_rfl) (by simp) (AllReadyH.cons rfl (fun K hK => ?_) AllReadyH.nil)
                    go_simp
                    (go_at_call 50; refine (HH.out _ (HGW.out.trans (by repeat(first|exact Gr.r _|refine Gr.a ?_|refine Gr.d ?_|refine Gr.t ?_ (by assumption))))).mono ?_; rintro e2 wn2 ⟨rfl, hgn2⟩)
                    (try go_wp2_with fail)
                    refine hK.out _ _ (by exact hold10 (by repeat(first|exact Gr.r _|refine Gr.a ?_|refine Gr.d ?_|refine Gr.t ?_ (by assumption))) hcs hpc) (fun hHeldN => ?_)
                    clear hHeld hK K
                    have hHeld := hHeldN
                    clear hHeldN
                    refine ty 36 54 hHeld ?_
                    refine wpAnyH_done (by kernel_rfl) ?_ _
                    obtain ⟨hgE, e0, e1, e2, e3, e4, e5, e6, e7, e8, e9⟩ := hHeld
                    have HGE : Hid (Gr w wn2) := HGW.out.trans hgE
                    have hbl2 : wr.heap.size < wn2.heap.size := World.block_lt_of_cell? wn2 _ e1
                    clear e0 e3 e4 e5 e6 e7 e8 e9 hgE
                    cases hT : (decide (0 ≤ dd ∧ dd ≤ 1000000016) && decide (0 ≤ s ∧ s ≤ 1000000)) with
                    | false =>
                      replace HF := Lib.hid (HF.out (by rw [HA.out, hT]; simp))
                      by_cases t1 : dd < 0
                      · go_wp2
                        go_ret
                        exact ⟨by rw [HF.out]; rfl, HGE.out⟩
                      · by_cases t2 : 1000000016 < dd
                        · go_wp2
                          go_ret
                          exact ⟨by rw [HF.out]; rfl, HGE.out⟩
                        · by_cases t3 : s < 0
                          · go_wp2
                            go_ret
                            exact ⟨by rw [HF.out]; rfl, HGE.out⟩
                          · have t4 : 1000000 < s := by
                              rw [decide_eq_true (show 0 ≤ dd ∧ dd ≤ 1000000016 by omega), Bool.true_and, decide_eq_false_iff_not] at hT
                              omega
                            go_wp2
                            go_ret
                            exact ⟨by rw [HF.out]; rfl, HGE.out⟩
                    | true =>
                      replace HNX := Lib.hid (HNX.out (by rw [HA.out, hT]; rfl))
                      rw [Bool.and_eq_true, decide_eq_true_eq, decide_eq_true_eq] at hT
                      have t1 : ¬ dd < 0 := by omega
                      have t2 : ¬ 1000000016 < dd := by omega
                      have t3 : ¬ s < 0 := by omega
                      have t4 : ¬ 1000000 < s := by omega
                      clear hT HA
                      go_wp2
                      go_roundw
                      case rel => exact ⟨k + 1, by go_num, by omega, HNX.out, HGE.out⟩
                      case measure => simp [intOf]; omega
                · rw [hck] at HX HA
                  clear hck
                  replace HF := Lib.hid (HF.out (by rw [HA.out]; simp))
                  go_wp2_with fail
                  obtain ⟨W, hW⟩ : ∃ W, W = wr.alloc (.cells #[.int .i64 q, .int .i64 dd, .int .i64 s, .int .i64 k0, .int .i64 r, .int .i64 n, .slice ax ll cx, .string dt, .int .i64 y] 73) := ⟨_, rfl⟩
                  have hgw : Gr wr W := by rw [hW]; exact (Gr.refl _).alloc
                  have hcs : Cs W wr.heap.size [.int .i64 q, .int .i64 dd, .int .i64 s, .int .i64 k0, .int .i64 r, .int .i64 n, .slice ax ll cx, .string dt, .int .i64 y] := by rw [hW]; exact Cs.new _ _ _ _ rfl
                  have hpc := hgw.keep c0
                  have HGW : Hid (Gr w W) := HG.out.trans hgw
                  rw [← hW]
                  clear hW hgw
                  refine wp_region_held_drew (S := (fun w' => Gr W w' ∧ w'.cell? ⟨wr.heap.size, 0, none⟩ = some (.int .i64 q) ∧ w'.cell? ⟨wr.heap.size, 1, none⟩ = some (.int .i64 dd) ∧ w'.cell? ⟨wr.heap.size, 2, none⟩ = some (.int .i64 s) ∧ w'.cell? ⟨wr.heap.size, 3, none⟩ = some (.int .i64 k0) ∧ w'.cell? ⟨wr.heap.size, 4, none⟩ = some (.int .i64 r) ∧ w'.cell? ⟨wr.heap.size, 5, none⟩ = some (.int .i64 n) ∧ w'.cell? ⟨wr.heap.size, 6, none⟩ = some (.slice ax ll cx) ∧ w'.cell? ⟨wr.heap.size, 7, none⟩ = some (.string dt) ∧ w'.cell? ⟨wr.heap.size, 8, none⟩ = some (.int .i64 y) ∧ w'.cell? ⟨b, off + k1 * 9, none⟩ = some (.int .i64 q1))) (by kernel_rfl) (by exact hold10 (by repeat(first|exact Gr.r _|refine Gr.a ?_|refine Gr.d ?_|refine Gr.t ?_ (by assumption))) hcs hpc) (fun hHeld => ?_)
                  refine ty 0 18 hHeld ?_
                  refine ty 1 19 hHeld ?_
                  refine ty 2 20 hHeld ?_
                  refine ty 3 21 hHeld ?_
                  refine ty 4 22 hHeld ?_
                  refine ty 5 23 hHeld ?_
                  refine ty 6 24 hHeld ?_
                  refine ty 7 25 hHeld ?_
                  refine ty 8 26 hHeld ?_
                  refine ty 9 27 hHeld ?_
                  refine ty 10 28 hHeld ?_
                  refine ty 11 29 hHeld ?_
                  refine ty 12 30 hHeld ?_
                  refine ty 13 31 hHeld ?_
                  refine ty 14 32 hHeld ?_
                  refine ty 15 33 hHeld ?_
                  refine ty 16 34 hHeld ?_
                  refine ty 17 35 hHeld ?_
                  refine ty 18 36 hHeld ?_
                  refine ty 19 37 hHeld ?_
                  refine ty 20 38 hHeld ?_
                  refine ty 21 39 hHeld ?_
                  refine ty 22 40 hHeld ?_
                  refine ty 23 41 hHeld ?_
                  refine ty 24 42 hHeld ?_
                  refine ty 25 43 hHeld ?_
                  refine wpAnyH_ready (rs := [26]) (by kernel_rfl) (by simp) (AllReadyH.cons rfl (fun K hK => ?_) AllReadyH.nil)
                  go_simp
                  (go_at_call 46; refine (HX.out _ (HGW.out.trans (by repeat(first|exact Gr.r _|refine Gr.a ?_|refine Gr.d ?_|refine Gr.t ?_ (by assumption))))).mono ?_; rintro e wn ⟨rfl, hgn⟩)
                  (try go_wp2_with fail)
                  refine hK.out _ _ (by exact hold10 (by repeat(first|exact Gr.r _|refine Gr.a ?_|refine Gr.d ?_|refine Gr.t ?_ (by assumption))) hcs hpc) (fun hHeldN => ?_)
                  clear hHeld hK K
                  have hHeld := hHeldN
                  clear hHeldN
                  refine ty 27 45 hHeld ?_
                  refine ty 28 46 hHeld ?_
                  refine ty 29 47 hHeld ?_
                  refine tn 30 48 hHeld ?_
                  refine tn 31 49 hHeld ?_
                  refine tn 32 50 hHeld ?_
                  refine tn 33 51 hHeld ?_
                  refine tn 34 52 hHeld ?_
                  refine tn 35 53 hHeld ?_
                  refine ty 36 54 hHeld ?_
                  refine wpAnyH_done (by kernel_rfl) ?_ _
                  go_wp2
                  go_ret
                  exact ⟨by rw [HF.out]; rfl, HGW.out.trans hHeld.1⟩
      · have hge : ¬ ((k : Int) < (D.length : Int)) := by omega
        have HF : Hid (oMayE D = 0) := HE1.out (fun j hj => HK.out j hj (by omega))
        clear HX0 HH0 HE0 HE1 HK
        go_wp2
        go_ret
        exact ⟨by rw [HF.out]; rfl, HG.out⟩
end Go.Proofs.YthfbpilfdfploaaGreat
