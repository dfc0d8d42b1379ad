
/- The document's wheel: Set, done. -/
import Derived.Test.YtmgiiofjlgchfaaDoorWpC
import Derived.Test.YtmgiiofjlgchfaaDoorRegL
import Derived.BigRegion
namespace Go.Proofs.YtmgiiofjlgchfaaDoor
open Go.RowKit Go.Maps Go.Sort
open Wh (Tm Sl ks hasK atK del ins put dig whl Inv tlt Up trn upto past)

def World.size0 (w : World) : Nat := w.heap.size
/- two that may come up -/
theorem stepC2 {P : Program} {md : Region.Mode} {ops : Array Oper} {Q : Exit → Act → World → Prop} {s : Nat} {S : World → Prop} (i j : Nat) {oi oj : Oper} {fuel : Nat} {listed : Array Bool} {a : Act} {w : World} (hr : Region.ready md ops listed = [i, j]) (hoi : ops[i]? = some oi) (hoj : ops[j]? = some oj)
    (h1 : ∀ K' : Act → World → Prop, Shut (∀ a w, S w → wpAnyL P md ops Q s S fuel (listed.setIfInBounds i true) a w → K' a w) → if Region.wanted oi (yielded ops a.tmps) = true then Oper.wp P oi a w K' Q else K' (a.put oi.dst undef) w)
    (h2 : ∀ K' : Act → World → Prop, Shut (∀ a w, S w → wpAnyL P md ops Q s S fuel (listed.setIfInBounds j true) a w → K' a w) → if Region.wanted oj (yielded ops a.tmps) = true then Oper.wp P oj a w K' Q else K' (a.put oj.dst undef) w) :
    wpAnyL P md ops Q s S (fuel + 1) listed a w := by
  refine ⟨fun h0 => (by rw [hr] at h0; cases h0), fun k hk => ?_⟩
  rw [hr] at hk
  rcases List.mem_cons.1 hk with rfl | hk
  · exact wpOp_step hoi (fun K' hK => h1 K' (fun a w hS hW => hK a w ⟨fun _ => hS, hW⟩))
  · obtain rfl : k = j := by simpa using hk
    exact wpOp_step hoj (fun K' hK => h2 K' (fun a w hS hW => hK a w ⟨fun _ => hS, hW⟩))
theorem RfR.trans {w w1 w2 : World} {r t t2 : Nat} {L L2 : List Tm} {o : Option Addr} (h : RfR w w1 r t L o) (h2 : RfR w1 w2 r t2 L2 none) : RfR w w2 r t2 L2 none := by
  obtain ⟨_, _, _, g1, _⟩ := h
  obtain ⟨ad, cap, q1, g2, q3⟩ := h2
  refine ⟨ad, cap, q1, ⟨g2.os.trans g1.os, g2.tape.trans g1.tape, g2.output.trans g1.output, Nat.le_trans g1.size g2.size, fun k hk hne => ?_⟩, fun a ea => ?_⟩
  · rw [g2.block k (Nat.lt_of_lt_of_le hk g1.size) hne]; exact g1.block k hk hne
  · rcases q3 a ea with ⟨_, e, _⟩ | e
    · cases e
    · exact Or.inr (Nat.le_trans g1.size e)
set_option maxHeartbeats 16000000 in
set_option maxRecDepth 100000 in
theorem rset_ok {w : World} {r t a : Nat} {ad : Option Addr} {cap : Nat} {L : List Tm} (h : RfAt w r t ad cap L) (hf : L.length ≤ 200) (k : ByteArray) (h1 : ¬ k.size < 1) (h2 : ¬ 100 < k.size) (h3 : ¬ 1000000000 < a) (h4 : t < a) (h5 : hasK L k = true ∨ L.length < 200) :
    Calls Tryd.prog 13 #[ptr r, .string k, .int .i64 (a : Int)] w fun e w' => e = .returned (.int .i64 0) ∧ RfR w w' r t (ins (del L k) (k, a)) none := by
  have h1' : ¬ (k.size : Int) < 1 := by omega
  have h2' : ¬ (100 : Int) < (k.size : Int) := by omega
  have h3' : ¬ (1000000000 : Int) < (a : Int) := by omega
  have h4' : ¬ (a : Int) ≤ (t : Int) := by omega
  have HA := Lib.hid (rat_any h k)
  have HD := Lib.hid (rdrop_any h hf k)
  have hc := h.now
  have hc1 := h.lst
  have HfD : Hid ((del L k).length ≤ 200) := Nat.le_trans (List.length_filter_le _ _) hf
  obtain ⟨i0, hi0, hz0, hz1, hz2⟩ := info_parts infoTm
  have hor : hasK L k = true ∨ (hasK L k = false ∧ ¬ (200 : Int) ≤ (L.length : Int)) := by
    cases hh : hasK L k with
    | true => exact Or.inl rfl
    | false =>
      rw [hh] at h5
      rcases h5 with h5 | h5
      · cases h5
      · exact Or.inr ⟨rfl, by omega⟩
  generalize (atK L k : Int) = z at *
  obtain ⟨M, eM⟩ : ∃ M, M = del L k := ⟨_, rfl⟩
  rw [← eM] at HD HfD ⊢
  generalize hasK L k = hk at *
  clear h h1 h2 h3 h5 eM
  rcases hor with hhk | ⟨hhk, hln⟩
  · subst hhk
    go_enter Tryd.func13, Tryd.ntmps13
    go_wp2_with (first
      | (go_at_call 22; refine HA.out.mono ?_; rintro e w' ⟨rfl, hw⟩; obtain rfl := hw.symm; clear hw)
      | (go_at_call 15; refine HD.out.mono ?_; rintro e w1 ⟨rfl, hr1⟩))
    have HR1 : Hid (RfR w w1 r t M none) := hr1
    obtain ⟨ad1, cap1, h1, _, _⟩ := hr1
    have HH : Hid (RfAt w1 r t ad1 cap1 M) := h1
    have HIn : Hid (ins M (k, a) = M.takeWhile (fun y => tlt y (k, a)) ++ (k, a) :: M.dropWhile (fun y => tlt y (k, a))) := rfl
    have HAD : Hid (M.takeWhile (fun y => tlt y (k, a)) ++ M.dropWhile (fun y => tlt y (k, a)) = M) := List.takeWhile_append_dropWhile
    have HJ : Hid (∀ j (h2 : j < M.length), j < (M.takeWhile (fun y => tlt y (k, a))).length → tlt M[j] (k, a) = true) := fun j h2 hj => tw_lt hj h2
    have HJ2 : Hid (∀ (h2 : (M.takeWhile (fun y => tlt y (k, a))).length < M.length), tlt M[(M.takeWhile (fun y => tlt y (k, a))).length] (k, a) = false) := fun h2 => tw_at h2
    generalize M.takeWhile (fun y => tlt y (k, a)) = A at *
    generalize M.dropWhile (fun y => tlt y (k, a)) = D at *
    have hAD : A.length + D.length = M.length := by rw [← HAD.out, List.length_append]
    have hle := h1.le
    have hcp := h1.cp
    have h63 : M.length ≤ 9223372036854775807 := by omega
    have hM2 : M.length ≤ 200 := HfD.out
    have HLen : Hid (A.length + D.length ≤ 200) := by show _ ≤ _; omega
    have hS1 := slice_low ad1 M.length cap1 A.length (by omega) hle
    have hS2 : ∀ W, (Instr.sliceAt 36 (.slice ad1 M.length cap1) (some (.int .i64 A.length)) none none).run Tryd.prog W = .ok (.slice (highAd ad1 cap1 A.length) D.length (cap1 - A.length)) W := fun W => by
      rw [slice_high ad1 M.length cap1 A.length (by omega) W, show M.length - A.length = D.length by omega]
    have HRows : Hid (RowAt tmf w1 ad1 A ∧ RowAt tmf w1 (highAd ad1 cap1 A.length) D ∧ (highAd ad1 cap1 A.length = none → cap1 - A.length = 0)) := by
      have e1 : M.take A.length = A := by rw [← HAD.out]; simp
      have e2 : M.drop A.length = D := by rw [← HAD.out]; simp
      have r1 := row_take tmf_len h1.row A.length (by omega)
      have r2 := row_high h1.row cap1 A.length hle
      rw [e1] at r1
      rw [e2] at r2
      refine ⟨r1, r2, ?_⟩
      have hnil := h1.nil
      unfold highAd
      split
      · intro e; rw [hnil e]; omega
      · cases ad1 with
        | none => intro _; rw [hnil rfl]; omega
        | some a => intro e; cases e
    have HNil : Hid (ad1 = none → cap1 = 0) := h1.nil
    have hd1 := h1.lst
    clear h1 HA HD hc hc1 hle
    go_wp2
    go_loop [9] (fun i => ∃ (j : Nat), j ≤ A.length ∧ i = .int .i64 (j : Int)) (fun i => M.length - (intOf i).toNat)
    case atStart => exact ⟨0, Nat.zero_le _, rfl⟩
    case round =>
      obtain ⟨j, hj, rfl⟩ := hrel
      by_cases hja : j < A.length
      · have hlt : j < M.length := by omega
        obtain ⟨b, off, hadq, hb, d0, d1⟩ := tm_at HH.out.row j hlt
        have hd := HJ.out j hlt hja
        subst hadq
        obtain ⟨y1, y2, ey⟩ : ∃ y1 y2, M[j] = (y1, y2) := ⟨M[j].1, M[j].2, rfl⟩
        rw [ey] at hd d0 d1
        simp only at d0 d1
        clear hS1 hS2 hAD ey
        simp only [tlt, Bool.or_eq_true, Bool.and_eq_true, decide_eq_true_eq] at hd
        by_cases hlt2 : y2 < a
        · have hl2 : (y2 : Int) < (a : Int) := by omega
          clear hd hlt2
          go_wp2
          go_round
          case rel => exact ⟨j + 1, by omega, by simp⟩
          case measure => simp [intOf]; omega
        · obtain ⟨e2, hl⟩ : y2 = a ∧ Wh.lt y1 k = true := hd.resolve_left hlt2
          subst e2
          have hl' : Op.bytesLess y1.toList k.toList = true := hl
          clear hd hlt2 hl
          go_wp2
          go_round
          case rel => exact ⟨j + 1, by omega, by simp⟩
          case measure => simp [intOf]; omega
      · obtain rfl : j = A.length := by omega
        have hcond : M.length ≤ A.length ∨ ∃ b off y1 y2, ad1 = some ⟨b, off, none⟩ ∧ A.length < M.length ∧ w1.cell? ⟨b, off + A.length * 2, none⟩ = some (.string y1) ∧ w1.cell? ⟨b, off + A.length * 2 + 1, none⟩ = some (.int .i64 ((y2 : Nat) : Int)) ∧ tlt (y1, y2) (k, a) = false := by
          by_cases hlt : A.length < M.length
          · obtain ⟨b, off, hadq, hb, d0, d1⟩ := tm_at HH.out.row A.length hlt
            exact Or.inr ⟨b, off, M[A.length].1, M[A.length].2, hadq, hlt, d0, d1, HJ2.out hlt⟩
          · exact Or.inl (by omega)
        have HGV : Hid (Gr w1 w1.drew) := (Gr.refl w1).drew
        have hdr : w1.drew.cell? ⟨r, 1, none⟩ = some (.slice ad1 M.length cap1) := HGV.out.keep hd1
        rcases hcond with hge | ⟨b, off, y1, y2, hadq, hltA, d0, d1, hno⟩
        · have hgi : ¬ (A.length : Int) < (M.length : Int) := by omega
          clear hge hAD HJ HJ2
          go_upto_region 12 with fail
          refine beginL 23 (fun w' => w'.cell? ⟨r, 1, none⟩ = some (.slice ad1 M.length cap1)) (by kernel_rfl) (by exact hdr) (fun hHeld => ?_)
          refine takeW 0 92 (v := ?_) rfl rfl (by decide) (by kernel_rfl) (by kernel_rfl) (by kernel_rfl) (fun _ _ _ h => h) (by rfl) ?_ (fun _ => hHeld) ?_
          rotate_left
          · (intro w; (try intro hSw); (try dsimp only at hSw); go_simp; try with_reducible rfl)
          simp only [Act.put, List.setIfInBounds_toArray, List.set_cons_zero, List.set_cons_succ]
          refine takeW 2 94 (v := ?_) rfl rfl (by decide) (by kernel_rfl) (by kernel_rfl) (by kernel_rfl) (fun _ _ _ h => h) (by rfl) ?_ (fun _ => hHeld) ?_
          rotate_left
          · (intro w; (try intro hSw); (try dsimp only at hSw); go_simp; try with_reducible rfl)
          simp only [Act.put, List.setIfInBounds_toArray, List.set_cons_zero, List.set_cons_succ]
          refine takeW 3 95 (v := ?_) rfl rfl (by decide) (by kernel_rfl) (by kernel_rfl) (by kernel_rfl) (fun _ _ _ h => h) (by rfl) ?_ (fun _ => hHeld) ?_
          rotate_left
          · (intro w; (try intro hSw); (try dsimp only at hSw); go_simp; try with_reducible rfl)
          simp only [Act.put, List.setIfInBounds_toArray, List.set_cons_zero, List.set_cons_succ]
          refine takeW 4 96 (v := ?_) rfl rfl (by decide) (by kernel_rfl) (by kernel_rfl) (by kernel_rfl) (fun _ _ _ h => h) (by rfl) ?_ (fun _ => hHeld) ?_
          rotate_left
          · (intro w; (try intro hSw); (try dsimp only at hSw); go_simp; try with_reducible rfl)
          simp only [Act.put, List.setIfInBounds_toArray, List.set_cons_zero, List.set_cons_succ]
          refine takeS 5 97 (v := ?_) rfl rfl (by decide) (by kernel_rfl) (by kernel_rfl) (by kernel_rfl) (by kernel_rfl) (by kernel_rfl) (fun _ _ _ h => h) (by rfl) ?_ hHeld ?_
          rotate_left
          · (intro w; (try intro hSw); (try dsimp only at hSw); go_simp; try with_reducible rfl)
          simp only [Act.put, List.setIfInBounds_toArray, List.set_cons_zero, List.set_cons_succ]
          refine takeW 6 98 (v := ?_) rfl rfl (by decide) (by kernel_rfl) (by kernel_rfl) (by kernel_rfl) (fun _ _ _ h => h) (by rfl) ?_ (fun _ => hHeld) ?_
          rotate_left
          · (intro w; (try intro hSw); (try dsimp only at hSw); go_simp; try with_reducible rfl)
          simp only [Act.put, List.setIfInBounds_toArray, List.set_cons_zero, List.set_cons_succ]
          refine takeW 7 99 (v := ?_) rfl rfl (by decide) (by kernel_rfl) (by kernel_rfl) (by kernel_rfl) (fun _ _ _ h => h) (by rfl) ?_ (fun _ => hHeld) ?_
          rotate_left
          · (intro w; (try intro hSw); (try dsimp only at hSw); go_simp; try with_reducible rfl)
          simp only [Act.put, List.setIfInBounds_toArray, List.set_cons_zero, List.set_cons_succ]
          refine takeW 9 101 (v := ?_) rfl rfl (by decide) (by kernel_rfl) (by kernel_rfl) (by kernel_rfl) (fun _ _ _ h => h) (by rfl) ?_ (fun _ => hHeld) ?_
          rotate_left
          · (intro w; (try intro hSw); (try dsimp only at hSw); go_simp; try with_reducible rfl)
          simp only [Act.put, List.setIfInBounds_toArray, List.set_cons_zero, List.set_cons_succ]
          refine takeW 10 102 (v := ?_) rfl rfl (by decide) (by kernel_rfl) (by kernel_rfl) (by kernel_rfl) (fun _ _ _ h => h) (by rfl) ?_ (fun _ => hHeld) ?_
          rotate_left
          · (intro w; (try intro hSw); (try dsimp only at hSw); go_simp; try with_reducible rfl)
          simp only [Act.put, List.setIfInBounds_toArray, List.set_cons_zero, List.set_cons_succ]
          refine takeW 11 103 (v := ?_) rfl rfl (by decide) (by kernel_rfl) (by kernel_rfl) (by kernel_rfl) (fun _ _ _ h => h) (by rfl) ?_ (fun _ => hHeld) ?_
          rotate_left
          · (intro w; (try intro hSw); (try dsimp only at hSw); go_simp; try with_reducible rfl)
          simp only [Act.put, List.setIfInBounds_toArray, List.set_cons_zero, List.set_cons_succ]
          refine takeW 14 106 (v := ?_) rfl rfl (by decide) (by kernel_rfl) (by kernel_rfl) (by kernel_rfl) (fun _ _ _ h => h) (by rfl) ?_ (fun _ => hHeld) ?_
          rotate_left
          · (intro w; (try intro hSw); (try dsimp only at hSw); go_simp; try with_reducible rfl)
          simp only [Act.put, List.setIfInBounds_toArray, List.set_cons_zero, List.set_cons_succ]
          refine takeW 15 107 (v := ?_) rfl rfl (by decide) (by kernel_rfl) (by kernel_rfl) (by kernel_rfl) (fun _ _ _ h => h) (by rfl) ?_ (fun _ => hHeld) ?_
          rotate_left
          · (intro w; (try intro hSw); (try dsimp only at hSw); go_simp; try with_reducible rfl)
          simp only [Act.put, List.setIfInBounds_toArray, List.set_cons_zero, List.set_cons_succ]
          refine takeW 16 108 (v := ?_) rfl rfl (by decide) (by kernel_rfl) (by kernel_rfl) (by kernel_rfl) (fun _ _ _ h => h) (by rfl) ?_ (fun _ => hHeld) ?_
          rotate_left
          · (intro w; (try intro hSw); (try dsimp only at hSw); go_simp; try with_reducible rfl)
          simp only [Act.put, List.setIfInBounds_toArray, List.set_cons_zero, List.set_cons_succ]
          refine takeS 17 109 (v := ?_) rfl rfl (by decide) (by kernel_rfl) (by kernel_rfl) (by kernel_rfl) (by kernel_rfl) (by kernel_rfl) (fun _ _ _ h => h) (by rfl) ?_ hHeld ?_
          rotate_left
          · (intro w; (try intro hSw); (try dsimp only at hSw); go_simp; try with_reducible rfl)
          simp only [Act.put, List.setIfInBounds_toArray, List.set_cons_zero, List.set_cons_succ]
          refine takeW 18 110 (v := ?_) rfl rfl (by decide) (by kernel_rfl) (by kernel_rfl) (by kernel_rfl) (fun _ _ _ h => h) (by rfl) ?_ (fun _ => hHeld) ?_
          rotate_left
          · (intro w; (try intro hSw); (try dsimp only at hSw); go_simp; try with_reducible rfl)
          simp only [Act.put, List.setIfInBounds_toArray, List.set_cons_zero, List.set_cons_succ]
          refine takeW 19 111 (v := ?_) rfl rfl (by decide) (by kernel_rfl) (by kernel_rfl) (by kernel_rfl) (fun _ _ _ h => h) (by rfl) ?_ (fun _ => hHeld) ?_
          rotate_left
          · (intro w; (try intro hSw); (try dsimp only at hSw); go_simp; try with_reducible rfl)
          simp only [Act.put, List.setIfInBounds_toArray, List.set_cons_zero, List.set_cons_succ]
          obtain ⟨V, hV⟩ : ∃ V, V = w1.drew := ⟨_, rfl⟩
          rw [← hV] at HGV ⊢
          clear hV hdr
          refine stepC2 1 12 (by kernel_rfl) rfl rfl (fun K hK => ?_) (fun K hK => ?_)
          · skip
            go_simp
            have HO1 : Hid (World.ownsRow (V.alloc (.cells #[] 61)) w1.heap.size 61 2 (.slice (some ⟨V.heap.size, 0, none⟩) 0 0) 0 []) := own_lit0 V w1.heap.size 61 _ rfl HGV.out.size
            have HG1 : Hid (Gr w1 (V.alloc (.cells #[] 61))) := HGV.out.alloc
            have HsV : Hid (∀ g, g = World.size0 (V.alloc (.cells #[] 61)) → V.heap.size < g) := fun g hg => by rw [hg]; simp [World.size0]
            obtain ⟨W1, hW1⟩ : ∃ x, x = V.alloc (.cells #[] 61) := ⟨_, rfl⟩
            rw [← hW1] at HO1 HG1 HsV ⊢
            clear hW1
            refine hK.out _ _ (HG1.out.keep hd1) ?_
            clear hK K
            refine stepC2 8 12 (by kernel_rfl) rfl rfl (fun K hK => ?_) (fun K hK => ?_)
            · skip
              refine step_append_row (by rfl) _ _ 36 (by rfl) w1.heap.size 61 i0 (.agg #[.string ⟨#[]⟩, .int .i64 0]) 2 24 Tryd.underlying36 hi0 hz0 hz1 hz2 rfl (by decide) _ 0 [] (by rfl) HO1.out tmf_len A ad1 cap1 (by rfl) HNil.out (HRows.out.1.gr HG1.out) (tmf_flat_one A) (by have := HLen.out; unfold maxLen; omega) (by have := HLen.out; omega) HG1.out.size ?_
              intro v1 W2 ho2 hg2
              have HO2 := Lib.hid ho2
              have HG2 : Hid (Gr w1 W2) := HG1.out.grown hg2 (fun j hj => (HO1.out.lt j hj).1)
              clear ho2 hg2
              refine hK.out (Act.put _ (some 100) v1) _ (HG2.out.keep hd1) ?_
              clear hK K
              simp only [Act.put, List.setIfInBounds_toArray, List.set_cons_zero, List.set_cons_succ]
              refine stepC 12 (by kernel_rfl) rfl (fun K hK => ?_)
              go_simp
              have HO3 := Lib.hid (HO2.out.alloc (.cells #[.string k, .int .i64 (a : Int)] 61))
              have HG3 : Hid (Gr w1 (W2.alloc (.cells #[.string k, .int .i64 (a : Int)] 61))) := HG2.out.alloc
              have HC : Hid (∀ j u, [Value.string k, .int .i64 (a : Int)][j]? = some u → World.cell? (W2.alloc (.cells #[.string k, .int .i64 (a : Int)] 61)) ((⟨W2.heap.size, 0, none⟩ : Addr).add j) = some u) := cells_two rfl
              obtain ⟨W3, hW3⟩ : ∃ x, x = W2.alloc (.cells #[.string k, .int .i64 (a : Int)] 61) := ⟨_, rfl⟩
              rw [← hW3] at HO3 HG3 HC ⊢
              clear hW3
              refine hK.out _ _ (HG3.out.keep hd1) (fun _ => ?_)
              clear hK K
              clear hHeld
              refine stepC 13 (by kernel_rfl) rfl (fun K hK => ?_)
              refine step_append_at (by rfl) _ _ 36 (by rfl) w1.heap.size 61 i0 (.agg #[.string ⟨#[]⟩, .int .i64 0]) 2 24 Tryd.underlying36 hi0 hz0 hz1 hz2 rfl (by decide) v1 (0 + A.length) ([] ++ A.flatMap tmf) (by rfl) HO3.out ⟨W2.heap.size, 0, none⟩ 1 1 [.string k, .int .i64 (a : Int)] (by rfl) rfl HC.out (by intro u hu; simp at hu; rcases hu with rfl | rfl <;> rfl) (by have := HLen.out; unfold maxLen; omega) (by have := HLen.out; omega) HG3.out.size ?_
              intro v2 W4 ho4 hg4 hat4
              have HO4 := Lib.hid ho4
              have HG4 : Hid (Gr w1 W4) := HG3.out.grown hg4 (fun j hj => (HO3.out.lt j hj).1)
              clear ho4 hg4 hat4
              refine hK.out (Act.put _ (some 105) v2) _ (HG4.out.keep hd1) (fun _ => ?_)
              clear hK K
              simp only [Act.put, List.setIfInBounds_toArray, List.set_cons_zero, List.set_cons_succ]
              refine stepC 20 (by kernel_rfl) rfl (fun K hK => ?_)
              refine step_append_row (by rfl) _ _ 36 (by rfl) w1.heap.size 61 i0 (.agg #[.string ⟨#[]⟩, .int .i64 0]) 2 24 Tryd.underlying36 hi0 hz0 hz1 hz2 rfl (by decide) v2 (0 + A.length + 1) ([] ++ A.flatMap tmf ++ [.string k, .int .i64 (a : Int)]) (by rfl) HO4.out tmf_len D (highAd ad1 cap1 A.length) (cap1 - A.length) (by rfl) HRows.out.2.2 (HRows.out.2.1.gr HG4.out) (tmf_flat_one D) (by have := HLen.out; unfold maxLen; omega) (by have := HLen.out; omega) HG4.out.size ?_
              intro v3 W5 ho5 hg5
              have HG5 : Hid (Gr w1 W5) := HG4.out.grown hg5 (fun j hj => (HO4.out.lt j hj).1)
              have HO5 : Hid (W5.ownsRow w1.heap.size 61 2 v3 (A ++ (k, a) :: D).length ((A ++ (k, a) :: D).flatMap tmf)) := by
                show W5.ownsRow _ _ _ _ _ _
                have e1 : (A ++ (k, a) :: D).length = 0 + A.length + 1 + D.length := by simp; omega
                have e2 : (A ++ (k, a) :: D).flatMap tmf = [] ++ A.flatMap tmf ++ [.string k, .int .i64 (a : Int)] ++ D.flatMap tmf := by simp [List.flatMap_append, tmf]
                rw [e1, e2]; exact ho5
              clear ho5 hg5
              refine hK.out (Act.put _ (some 112) v3) _ (HG5.out.keep hd1) (fun hHeld => ?_)
              clear hK K
              simp only [Act.put, List.setIfInBounds_toArray, List.set_cons_zero, List.set_cons_succ]
              refine takeW 21 113 (v := ?_) rfl rfl (by decide) (by kernel_rfl) (by kernel_rfl) (by kernel_rfl) (fun _ _ _ h => h) (by rfl) ?_ (fun _ => hHeld) ?_
              rotate_left
              · (intro w; (try intro hSw); (try dsimp only at hSw); go_simp; try with_reducible rfl)
              simp only [Act.put, List.setIfInBounds_toArray, List.set_cons_zero, List.set_cons_succ]
              refine takeW 22 114 (v := ?_) rfl rfl (by decide) (by kernel_rfl) (by kernel_rfl) (by kernel_rfl) (fun _ _ _ h => h) (by rfl) ?_ (fun _ => hHeld) ?_
              rotate_left
              · (intro w; (try intro hSw); (try dsimp only at hSw); go_simp; try with_reducible rfl)
              simp only [Act.put, List.setIfInBounds_toArray, List.set_cons_zero, List.set_cons_succ]
              clear hHeld
              obtain ⟨p1, q1, hv3⟩ := own_slice HO5.out
              rw [hv3] at HO5 ⊢
              have HF := Lib.hid (HR1.out.trans (HH.out.laid HG5.out HO5.out))
              have c5 := HG5.out.keep hd1
              have f5 := (HH.out.gr HG5.out).f1
              have l5 := (HH.out.gr HG5.out).lt
              generalize (A ++ (k, a) :: D).length = nn at *
              refine stepS (by kernel_rfl) rfl (by kernel_rfl) (fun K hK => ?_)
              go_simp
              refine hK.out _ _ ?_
              clear hK K
              refine doneL (by kernel_rfl) ?_ _
              go_wp2
              go_ret
              exact ⟨rfl, by rw [HIn.out]; exact HF.out⟩
            · skip
              go_simp
              have HO2 := Lib.hid (HO1.out.alloc (.cells #[.string k, .int .i64 (a : Int)] 61))
              have HG2 : Hid (Gr w1 (W1.alloc (.cells #[.string k, .int .i64 (a : Int)] 61))) := HG1.out.alloc
              have HC : Hid (∀ j u, [Value.string k, .int .i64 (a : Int)][j]? = some u → World.cell? (W1.alloc (.cells #[.string k, .int .i64 (a : Int)] 61)) ((⟨W1.heap.size, 0, none⟩ : Addr).add j) = some u) := cells_two rfl
              obtain ⟨W2, hW2⟩ : ∃ x, x = W1.alloc (.cells #[.string k, .int .i64 (a : Int)] 61) := ⟨_, rfl⟩
              rw [← hW2] at HO2 HG2 HC ⊢
              clear hW2
              refine hK.out _ _ (HG2.out.keep hd1) ?_
              clear hK K
              refine stepC 8 (by kernel_rfl) rfl (fun K hK => ?_)
              refine step_append_row (by rfl) _ _ 36 (by rfl) w1.heap.size 61 i0 (.agg #[.string ⟨#[]⟩, .int .i64 0]) 2 24 Tryd.underlying36 hi0 hz0 hz1 hz2 rfl (by decide) _ 0 [] (by rfl) HO2.out tmf_len A ad1 cap1 (by rfl) HNil.out (HRows.out.1.gr HG2.out) (tmf_flat_one A) (by have := HLen.out; unfold maxLen; omega) (by have := HLen.out; omega) HG2.out.size ?_
              intro v1 W3 ho3 hg3
              have HO3 := Lib.hid ho3
              have HG3 : Hid (Gr w1 W3) := HG2.out.grown hg3 (fun j hj => (HO2.out.lt j hj).1)
              have HC3 : Hid (∀ j u, [Value.string k, .int .i64 (a : Int)][j]? = some u → World.cell? W3 ((⟨W1.heap.size, 0, none⟩ : Addr).add j) = some u) := fun j u hj => hg3.cell (HC.out j u hj) (fun e => by rw [Addr.add_lit] at e; injection e with e; simp only at e; have := HsV.out _ rfl; unfold World.size0 at this; omega)
              clear ho3 hg3 HC
              refine hK.out (Act.put _ (some 100) v1) _ (HG3.out.keep hd1) (fun _ => ?_)
              clear hK K
              simp only [Act.put, List.setIfInBounds_toArray, List.set_cons_zero, List.set_cons_succ]
              clear hHeld
              refine stepC 13 (by kernel_rfl) rfl (fun K hK => ?_)
              refine step_append_at (by rfl) _ _ 36 (by rfl) w1.heap.size 61 i0 (.agg #[.string ⟨#[]⟩, .int .i64 0]) 2 24 Tryd.underlying36 hi0 hz0 hz1 hz2 rfl (by decide) v1 (0 + A.length) ([] ++ A.flatMap tmf) (by rfl) HO3.out ⟨W1.heap.size, 0, none⟩ 1 1 [.string k, .int .i64 (a : Int)] (by rfl) rfl HC3.out (by intro u hu; simp at hu; rcases hu with rfl | rfl <;> rfl) (by have := HLen.out; unfold maxLen; omega) (by have := HLen.out; omega) HG3.out.size ?_
              intro v2 W4 ho4 hg4 hat4
              have HO4 := Lib.hid ho4
              have HG4 : Hid (Gr w1 W4) := HG3.out.grown hg4 (fun j hj => (HO3.out.lt j hj).1)
              clear ho4 hg4 hat4
              refine hK.out (Act.put _ (some 105) v2) _ (HG4.out.keep hd1) (fun _ => ?_)
              clear hK K
              simp only [Act.put, List.setIfInBounds_toArray, List.set_cons_zero, List.set_cons_succ]
              refine stepC 20 (by kernel_rfl) rfl (fun K hK => ?_)
              refine step_append_row (by rfl) _ _ 36 (by rfl) w1.heap.size 61 i0 (.agg #[.string ⟨#[]⟩, .int .i64 0]) 2 24 Tryd.underlying36 hi0 hz0 hz1 hz2 rfl (by decide) v2 (0 + A.length + 1) ([] ++ A.flatMap tmf ++ [.string k, .int .i64 (a : Int)]) (by rfl) HO4.out tmf_len D (highAd ad1 cap1 A.length) (cap1 - A.length) (by rfl) HRows.out.2.2 (HRows.out.2.1.gr HG4.out) (tmf_flat_one D) (by have := HLen.out; unfold maxLen; omega) (by have := HLen.out; omega) HG4.out.size ?_
              intro v3 W5 ho5 hg5
              have HG5 : Hid (Gr w1 W5) := HG4.out.grown hg5 (fun j hj => (HO4.out.lt j hj).1)
              have HO5 : Hid (W5.ownsRow w1.heap.size 61 2 v3 (A ++ (k, a) :: D).length ((A ++ (k, a) :: D).flatMap tmf)) := by
                show W5.ownsRow _ _ _ _ _ _
                have e1 : (A ++ (k, a) :: D).length = 0 + A.length + 1 + D.length := by simp; omega
                have e2 : (A ++ (k, a) :: D).flatMap tmf = [] ++ A.flatMap tmf ++ [.string k, .int .i64 (a : Int)] ++ D.flatMap tmf := by simp [List.flatMap_append, tmf]
                rw [e1, e2]; exact ho5
              clear ho5 hg5
              refine hK.out (Act.put _ (some 112) v3) _ (HG5.out.keep hd1) (fun hHeld => ?_)
              clear hK K
              simp only [Act.put, List.setIfInBounds_toArray, List.set_cons_zero, List.set_cons_succ]
              refine takeW 21 113 (v := ?_) rfl rfl (by decide) (by kernel_rfl) (by kernel_rfl) (by kernel_rfl) (fun _ _ _ h => h) (by rfl) ?_ (fun _ => hHeld) ?_
              rotate_left
              · (intro w; (try intro hSw); (try dsimp only at hSw); go_simp; try with_reducible rfl)
              simp only [Act.put, List.setIfInBounds_toArray, List.set_cons_zero, List.set_cons_succ]
              refine takeW 22 114 (v := ?_) rfl rfl (by decide) (by kernel_rfl) (by kernel_rfl) (by kernel_rfl) (fun _ _ _ h => h) (by rfl) ?_ (fun _ => hHeld) ?_
              rotate_left
              · (intro w; (try intro hSw); (try dsimp only at hSw); go_simp; try with_reducible rfl)
              simp only [Act.put, List.setIfInBounds_toArray, List.set_cons_zero, List.set_cons_succ]
              clear hHeld
              obtain ⟨p1, q1, hv3⟩ := own_slice HO5.out
              rw [hv3] at HO5 ⊢
              have HF := Lib.hid (HR1.out.trans (HH.out.laid HG5.out HO5.out))
              have c5 := HG5.out.keep hd1
              have f5 := (HH.out.gr HG5.out).f1
              have l5 := (HH.out.gr HG5.out).lt
              generalize (A ++ (k, a) :: D).length = nn at *
              refine stepS (by kernel_rfl) rfl (by kernel_rfl) (fun K hK => ?_)
              go_simp
              refine hK.out _ _ ?_
              clear hK K
              refine doneL (by kernel_rfl) ?_ _
              go_wp2
              go_ret
              exact ⟨rfl, by rw [HIn.out]; exact HF.out⟩
          · skip
            go_simp
            have HG1 : Hid (Gr w1 (V.alloc (.cells #[.string k, .int .i64 (a : Int)] 61))) := HGV.out.alloc
            have HC : Hid (∀ j u, [Value.string k, .int .i64 (a : Int)][j]? = some u → World.cell? (V.alloc (.cells #[.string k, .int .i64 (a : Int)] 61)) ((⟨V.heap.size, 0, none⟩ : Addr).add j) = some u) := cells_two rfl
            have HsV : Hid (∀ g, g = World.size0 (V.alloc (.cells #[.string k, .int .i64 (a : Int)] 61)) → V.heap.size < g) := fun g hg => by rw [hg]; simp [World.size0]
            obtain ⟨W1, hW1⟩ : ∃ x, x = V.alloc (.cells #[.string k, .int .i64 (a : Int)] 61) := ⟨_, rfl⟩
            rw [← hW1] at HG1 HC HsV ⊢
            clear hW1
            refine hK.out _ _ (HG1.out.keep hd1) ?_
            clear hK K
            refine stepC 1 (by kernel_rfl) rfl (fun K hK => ?_)
            go_simp
            have HO2 : Hid (World.ownsRow (W1.alloc (.cells #[] 61)) w1.heap.size 61 2 (.slice (some ⟨W1.heap.size, 0, none⟩) 0 0) 0 []) := own_lit0 W1 w1.heap.size 61 _ rfl HG1.out.size
            have HG2 : Hid (Gr w1 (W1.alloc (.cells #[] 61))) := HG1.out.alloc
            have HC2 : Hid (∀ j u, [Value.string k, .int .i64 (a : Int)][j]? = some u → World.cell? (W1.alloc (.cells #[] 61)) ((⟨V.heap.size, 0, none⟩ : Addr).add j) = some u) := fun j u hj => (Gr.refl _).alloc.keep (HC.out j u hj)
            obtain ⟨W2, hW2⟩ : ∃ x, x = W1.alloc (.cells #[] 61) := ⟨_, rfl⟩
            rw [← hW2] at HO2 HG2 HC2 ⊢
            clear hW2 HC
            refine hK.out _ _ (HG2.out.keep hd1) (fun _ => ?_)
            clear hK K
            refine stepC 8 (by kernel_rfl) rfl (fun K hK => ?_)
            refine step_append_row (by rfl) _ _ 36 (by rfl) w1.heap.size 61 i0 (.agg #[.string ⟨#[]⟩, .int .i64 0]) 2 24 Tryd.underlying36 hi0 hz0 hz1 hz2 rfl (by decide) _ 0 [] (by rfl) HO2.out tmf_len A ad1 cap1 (by rfl) HNil.out (HRows.out.1.gr HG2.out) (tmf_flat_one A) (by have := HLen.out; unfold maxLen; omega) (by have := HLen.out; omega) HG2.out.size ?_
            intro v1 W3 ho3 hg3
            have HO3 := Lib.hid ho3
            have HG3 : Hid (Gr w1 W3) := HG2.out.grown hg3 (fun j hj => (HO2.out.lt j hj).1)
            have HC3 : Hid (∀ j u, [Value.string k, .int .i64 (a : Int)][j]? = some u → World.cell? W3 ((⟨V.heap.size, 0, none⟩ : Addr).add j) = some u) := fun j u hj => hg3.cell (HC2.out j u hj) (fun e => by rw [Addr.add_lit] at e; injection e with e; simp only at e; have := HsV.out _ rfl; unfold World.size0 at this; omega)
            clear ho3 hg3 HC2
            refine hK.out (Act.put _ (some 100) v1) _ (HG3.out.keep hd1) (fun _ => ?_)
            clear hK K
            simp only [Act.put, List.setIfInBounds_toArray, List.set_cons_zero, List.set_cons_succ]
            clear hHeld
            refine stepC 13 (by kernel_rfl) rfl (fun K hK => ?_)
            refine step_append_at (by rfl) _ _ 36 (by rfl) w1.heap.size 61 i0 (.agg #[.string ⟨#[]⟩, .int .i64 0]) 2 24 Tryd.underlying36 hi0 hz0 hz1 hz2 rfl (by decide) v1 (0 + A.length) ([] ++ A.flatMap tmf) (by rfl) HO3.out ⟨V.heap.size, 0, none⟩ 1 1 [.string k, .int .i64 (a : Int)] (by rfl) rfl HC3.out (by intro u hu; simp at hu; rcases hu with rfl | rfl <;> rfl) (by have := HLen.out; unfold maxLen; omega) (by have := HLen.out; omega) HG3.out.size ?_
            intro v2 W4 ho4 hg4 hat4
            have HO4 := Lib.hid ho4
            have HG4 : Hid (Gr w1 W4) := HG3.out.grown hg4 (fun j hj => (HO3.out.lt j hj).1)
            clear ho4 hg4 hat4
            refine hK.out (Act.put _ (some 105) v2) _ (HG4.out.keep hd1) (fun _ => ?_)
            clear hK K
            simp only [Act.put, List.setIfInBounds_toArray, List.set_cons_zero, List.set_cons_succ]
            refine stepC 20 (by kernel_rfl) rfl (fun K hK => ?_)
            refine step_append_row (by rfl) _ _ 36 (by rfl) w1.heap.size 61 i0 (.agg #[.string ⟨#[]⟩, .int .i64 0]) 2 24 Tryd.underlying36 hi0 hz0 hz1 hz2 rfl (by decide) v2 (0 + A.length + 1) ([] ++ A.flatMap tmf ++ [.string k, .int .i64 (a : Int)]) (by rfl) HO4.out tmf_len D (highAd ad1 cap1 A.length) (cap1 - A.length) (by rfl) HRows.out.2.2 (HRows.out.2.1.gr HG4.out) (tmf_flat_one D) (by have := HLen.out; unfold maxLen; omega) (by have := HLen.out; omega) HG4.out.size ?_
            intro v3 W5 ho5 hg5
            have HG5 : Hid (Gr w1 W5) := HG4.out.grown hg5 (fun j hj => (HO4.out.lt j hj).1)
            have HO5 : Hid (W5.ownsRow w1.heap.size 61 2 v3 (A ++ (k, a) :: D).length ((A ++ (k, a) :: D).flatMap tmf)) := by
              show W5.ownsRow _ _ _ _ _ _
              have e1 : (A ++ (k, a) :: D).length = 0 + A.length + 1 + D.length := by simp; omega
              have e2 : (A ++ (k, a) :: D).flatMap tmf = [] ++ A.flatMap tmf ++ [.string k, .int .i64 (a : Int)] ++ D.flatMap tmf := by simp [List.flatMap_append, tmf]
              rw [e1, e2]; exact ho5
            clear ho5 hg5
            refine hK.out (Act.put _ (some 112) v3) _ (HG5.out.keep hd1) (fun hHeld => ?_)
            clear hK K
            simp only [Act.put, List.setIfInBounds_toArray, List.set_cons_zero, List.set_cons_succ]
            refine takeW 21 113 (v := ?_) rfl rfl (by decide) (by kernel_rfl) (by kernel_rfl) (by kernel_rfl) (fun _ _ _ h => h) (by rfl) ?_ (fun _ => hHeld) ?_
            rotate_left
            · (intro w; (try intro hSw); (try dsimp only at hSw); go_simp; try with_reducible rfl)
            simp only [Act.put, List.setIfInBounds_toArray, List.set_cons_zero, List.set_cons_succ]
            refine takeW 22 114 (v := ?_) rfl rfl (by decide) (by kernel_rfl) (by kernel_rfl) (by kernel_rfl) (fun _ _ _ h => h) (by rfl) ?_ (fun _ => hHeld) ?_
            rotate_left
            · (intro w; (try intro hSw); (try dsimp only at hSw); go_simp; try with_reducible rfl)
            simp only [Act.put, List.setIfInBounds_toArray, List.set_cons_zero, List.set_cons_succ]
            clear hHeld
            obtain ⟨p1, q1, hv3⟩ := own_slice HO5.out
            rw [hv3] at HO5 ⊢
            have HF := Lib.hid (HR1.out.trans (HH.out.laid HG5.out HO5.out))
            have c5 := HG5.out.keep hd1
            have f5 := (HH.out.gr HG5.out).f1
            have l5 := (HH.out.gr HG5.out).lt
            generalize (A ++ (k, a) :: D).length = nn at *
            refine stepS (by kernel_rfl) rfl (by kernel_rfl) (fun K hK => ?_)
            go_simp
            refine hK.out _ _ ?_
            clear hK K
            refine doneL (by kernel_rfl) ?_ _
            go_wp2
            go_ret
            exact ⟨rfl, by rw [HIn.out]; exact HF.out⟩
        · have hgi : (A.length : Int) < (M.length : Int) := by omega
          simp only [tlt, Bool.or_eq_false_iff, Bool.and_eq_false_iff, decide_eq_false_iff_not] at hno
          obtain ⟨hn1, hn2⟩ := hno
          have hn1' : ¬ (y2 : Int) < (a : Int) := by omega
          clear hAD HJ HJ2
          by_cases hya : y2 = a
          · subst hya
            have hl' : Op.bytesLess y1.toList k.toList = false := by
              rcases hn2 with hn2 | hn2
              · exact absurd rfl hn2
              · exact hn2
            clear hn1 hn2 hn1'
            have hn1' : ¬ (y2 : Int) < (y2 : Int) := by omega
            subst hadq
            go_upto_region 12 with fail
            refine beginL 23 (fun w' => w'.cell? ⟨r, 1, none⟩ = some (.slice (some ⟨b, off, none⟩) M.length cap1)) (by kernel_rfl) (by exact hdr) (fun hHeld => ?_)
            refine takeW 0 92 (v := ?_) rfl rfl (by decide) (by kernel_rfl) (by kernel_rfl) (by kernel_rfl) (fun _ _ _ h => h) (by rfl) ?_ (fun _ => hHeld) ?_
            rotate_left
            · (intro w; (try intro hSw); (try dsimp only at hSw); go_simp; try with_reducible rfl)
            simp only [Act.put, List.setIfInBounds_toArray, List.set_cons_zero, List.set_cons_succ]
            refine takeW 2 94 (v := ?_) rfl rfl (by decide) (by kernel_rfl) (by kernel_rfl) (by kernel_rfl) (fun _ _ _ h => h) (by rfl) ?_ (fun _ => hHeld) ?_
            rotate_left
            · (intro w; (try intro hSw); (try dsimp only at hSw); go_simp; try with_reducible rfl)
            simp only [Act.put, List.setIfInBounds_toArray, List.set_cons_zero, List.set_cons_succ]
            refine takeW 3 95 (v := ?_) rfl rfl (by decide) (by kernel_rfl) (by kernel_rfl) (by kernel_rfl) (fun _ _ _ h => h) (by rfl) ?_ (fun _ => hHeld) ?_
            rotate_left
            · (intro w; (try intro hSw); (try dsimp only at hSw); go_simp; try with_reducible rfl)
            simp only [Act.put, List.setIfInBounds_toArray, List.set_cons_zero, List.set_cons_succ]
            refine takeW 4 96 (v := ?_) rfl rfl (by decide) (by kernel_rfl) (by kernel_rfl) (by kernel_rfl) (fun _ _ _ h => h) (by rfl) ?_ (fun _ => hHeld) ?_
            rotate_left
            · (intro w; (try intro hSw); (try dsimp only at hSw); go_simp; try with_reducible rfl)
            simp only [Act.put, List.setIfInBounds_toArray, List.set_cons_zero, List.set_cons_succ]
            refine takeS 5 97 (v := ?_) rfl rfl (by decide) (by kernel_rfl) (by kernel_rfl) (by kernel_rfl) (by kernel_rfl) (by kernel_rfl) (fun _ _ _ h => h) (by rfl) ?_ hHeld ?_
            rotate_left
            · (intro w; (try intro hSw); (try dsimp only at hSw); go_simp; try with_reducible rfl)
            simp only [Act.put, List.setIfInBounds_toArray, List.set_cons_zero, List.set_cons_succ]
            refine takeW 6 98 (v := ?_) rfl rfl (by decide) (by kernel_rfl) (by kernel_rfl) (by kernel_rfl) (fun _ _ _ h => h) (by rfl) ?_ (fun _ => hHeld) ?_
            rotate_left
            · (intro w; (try intro hSw); (try dsimp only at hSw); go_simp; try with_reducible rfl)
            simp only [Act.put, List.setIfInBounds_toArray, List.set_cons_zero, List.set_cons_succ]
            refine takeW 7 99 (v := ?_) rfl rfl (by decide) (by kernel_rfl) (by kernel_rfl) (by kernel_rfl) (fun _ _ _ h => h) (by rfl) ?_ (fun _ => hHeld) ?_
            rotate_left
            · (intro w; (try intro hSw); (try dsimp only at hSw); go_simp; try with_reducible rfl)
            simp only [Act.put, List.setIfInBounds_toArray, List.set_cons_zero, List.set_cons_succ]
            refine takeW 9 101 (v := ?_) rfl rfl (by decide) (by kernel_rfl) (by kernel_rfl) (by kernel_rfl) (fun _ _ _ h => h) (by rfl) ?_ (fun _ => hHeld) ?_
            rotate_left
            · (intro w; (try intro hSw); (try dsimp only at hSw); go_simp; try with_reducible rfl)
            simp only [Act.put, List.setIfInBounds_toArray, List.set_cons_zero, List.set_cons_succ]
            refine takeW 10 102 (v := ?_) rfl rfl (by decide) (by kernel_rfl) (by kernel_rfl) (by kernel_rfl) (fun _ _ _ h => h) (by rfl) ?_ (fun _ => hHeld) ?_
            rotate_left
            · (intro w; (try intro hSw); (try dsimp only at hSw); go_simp; try with_reducible rfl)
            simp only [Act.put, List.setIfInBounds_toArray, List.set_cons_zero, List.set_cons_succ]
            refine takeW 11 103 (v := ?_) rfl rfl (by decide) (by kernel_rfl) (by kernel_rfl) (by kernel_rfl) (fun _ _ _ h => h) (by rfl) ?_ (fun _ => hHeld) ?_
            rotate_left
            · (intro w; (try intro hSw); (try dsimp only at hSw); go_simp; try with_reducible rfl)
            simp only [Act.put, List.setIfInBounds_toArray, List.set_cons_zero, List.set_cons_succ]
            refine takeW 14 106 (v := ?_) rfl rfl (by decide) (by kernel_rfl) (by kernel_rfl) (by kernel_rfl) (fun _ _ _ h => h) (by rfl) ?_ (fun _ => hHeld) ?_
            rotate_left
            · (intro w; (try intro hSw); (try dsimp only at hSw); go_simp; try with_reducible rfl)
            simp only [Act.put, List.setIfInBounds_toArray, List.set_cons_zero, List.set_cons_succ]
            refine takeW 15 107 (v := ?_) rfl rfl (by decide) (by kernel_rfl) (by kernel_rfl) (by kernel_rfl) (fun _ _ _ h => h) (by rfl) ?_ (fun _ => hHeld) ?_
            rotate_left
            · (intro w; (try intro hSw); (try dsimp only at hSw); go_simp; try with_reducible rfl)
            simp only [Act.put, List.setIfInBounds_toArray, List.set_cons_zero, List.set_cons_succ]
            refine takeW 16 108 (v := ?_) rfl rfl (by decide) (by kernel_rfl) (by kernel_rfl) (by kernel_rfl) (fun _ _ _ h => h) (by rfl) ?_ (fun _ => hHeld) ?_
            rotate_left
            · (intro w; (try intro hSw); (try dsimp only at hSw); go_simp; try with_reducible rfl)
            simp only [Act.put, List.setIfInBounds_toArray, List.set_cons_zero, List.set_cons_succ]
            refine takeS 17 109 (v := ?_) rfl rfl (by decide) (by kernel_rfl) (by kernel_rfl) (by kernel_rfl) (by kernel_rfl) (by kernel_rfl) (fun _ _ _ h => h) (by rfl) ?_ hHeld ?_
            rotate_left
            · (intro w; (try intro hSw); (try dsimp only at hSw); go_simp; try with_reducible rfl)
            simp only [Act.put, List.setIfInBounds_toArray, List.set_cons_zero, List.set_cons_succ]
            refine takeW 18 110 (v := ?_) rfl rfl (by decide) (by kernel_rfl) (by kernel_rfl) (by kernel_rfl) (fun _ _ _ h => h) (by rfl) ?_ (fun _ => hHeld) ?_
            rotate_left
            · (intro w; (try intro hSw); (try dsimp only at hSw); go_simp; try with_reducible rfl)
            simp only [Act.put, List.setIfInBounds_toArray, List.set_cons_zero, List.set_cons_succ]
            refine takeW 19 111 (v := ?_) rfl rfl (by decide) (by kernel_rfl) (by kernel_rfl) (by kernel_rfl) (fun _ _ _ h => h) (by rfl) ?_ (fun _ => hHeld) ?_
            rotate_left
            · (intro w; (try intro hSw); (try dsimp only at hSw); go_simp; try with_reducible rfl)
            simp only [Act.put, List.setIfInBounds_toArray, List.set_cons_zero, List.set_cons_succ]
            obtain ⟨V, hV⟩ : ∃ V, V = w1.drew := ⟨_, rfl⟩
            rw [← hV] at HGV ⊢
            clear hV hdr
            refine stepC2 1 12 (by kernel_rfl) rfl rfl (fun K hK => ?_) (fun K hK => ?_)
            · skip
              go_simp
              have HO1 : Hid (World.ownsRow (V.alloc (.cells #[] 61)) w1.heap.size 61 2 (.slice (some ⟨V.heap.size, 0, none⟩) 0 0) 0 []) := own_lit0 V w1.heap.size 61 _ rfl HGV.out.size
              have HG1 : Hid (Gr w1 (V.alloc (.cells #[] 61))) := HGV.out.alloc
              have HsV : Hid (∀ g, g = World.size0 (V.alloc (.cells #[] 61)) → V.heap.size < g) := fun g hg => by rw [hg]; simp [World.size0]
              obtain ⟨W1, hW1⟩ : ∃ x, x = V.alloc (.cells #[] 61) := ⟨_, rfl⟩
              rw [← hW1] at HO1 HG1 HsV ⊢
              clear hW1
              refine hK.out _ _ (HG1.out.keep hd1) ?_
              clear hK K
              refine stepC2 8 12 (by kernel_rfl) rfl rfl (fun K hK => ?_) (fun K hK => ?_)
              · skip
                refine step_append_row (by rfl) _ _ 36 (by rfl) w1.heap.size 61 i0 (.agg #[.string ⟨#[]⟩, .int .i64 0]) 2 24 Tryd.underlying36 hi0 hz0 hz1 hz2 rfl (by decide) _ 0 [] (by rfl) HO1.out tmf_len A (some ⟨b, off, none⟩) cap1 (by rfl) HNil.out (HRows.out.1.gr HG1.out) (tmf_flat_one A) (by have := HLen.out; unfold maxLen; omega) (by have := HLen.out; omega) HG1.out.size ?_
                intro v1 W2 ho2 hg2
                have HO2 := Lib.hid ho2
                have HG2 : Hid (Gr w1 W2) := HG1.out.grown hg2 (fun j hj => (HO1.out.lt j hj).1)
                clear ho2 hg2
                refine hK.out (Act.put _ (some 100) v1) _ (HG2.out.keep hd1) ?_
                clear hK K
                simp only [Act.put, List.setIfInBounds_toArray, List.set_cons_zero, List.set_cons_succ]
                refine stepC 12 (by kernel_rfl) rfl (fun K hK => ?_)
                go_simp
                have HO3 := Lib.hid (HO2.out.alloc (.cells #[.string k, .int .i64 (y2 : Int)] 61))
                have HG3 : Hid (Gr w1 (W2.alloc (.cells #[.string k, .int .i64 (y2 : Int)] 61))) := HG2.out.alloc
                have HC : Hid (∀ j u, [Value.string k, .int .i64 (y2 : Int)][j]? = some u → World.cell? (W2.alloc (.cells #[.string k, .int .i64 (y2 : Int)] 61)) ((⟨W2.heap.size, 0, none⟩ : Addr).add j) = some u) := cells_two rfl
                obtain ⟨W3, hW3⟩ : ∃ x, x = W2.alloc (.cells #[.string k, .int .i64 (y2 : Int)] 61) := ⟨_, rfl⟩
                rw [← hW3] at HO3 HG3 HC ⊢
                clear hW3
                refine hK.out _ _ (HG3.out.keep hd1) (fun _ => ?_)
                clear hK K
                clear hHeld
                refine stepC 13 (by kernel_rfl) rfl (fun K hK => ?_)
                refine step_append_at (by rfl) _ _ 36 (by rfl) w1.heap.size 61 i0 (.agg #[.string ⟨#[]⟩, .int .i64 0]) 2 24 Tryd.underlying36 hi0 hz0 hz1 hz2 rfl (by decide) v1 (0 + A.length) ([] ++ A.flatMap tmf) (by rfl) HO3.out ⟨W2.heap.size, 0, none⟩ 1 1 [.string k, .int .i64 (y2 : Int)] (by rfl) rfl HC.out (by intro u hu; simp at hu; rcases hu with rfl | rfl <;> rfl) (by have := HLen.out; unfold maxLen; omega) (by have := HLen.out; omega) HG3.out.size ?_
                intro v2 W4 ho4 hg4 hat4
                have HO4 := Lib.hid ho4
                have HG4 : Hid (Gr w1 W4) := HG3.out.grown hg4 (fun j hj => (HO3.out.lt j hj).1)
                clear ho4 hg4 hat4
                refine hK.out (Act.put _ (some 105) v2) _ (HG4.out.keep hd1) (fun _ => ?_)
                clear hK K
                simp only [Act.put, List.setIfInBounds_toArray, List.set_cons_zero, List.set_cons_succ]
                refine stepC 20 (by kernel_rfl) rfl (fun K hK => ?_)
                refine step_append_row (by rfl) _ _ 36 (by rfl) w1.heap.size 61 i0 (.agg #[.string ⟨#[]⟩, .int .i64 0]) 2 24 Tryd.underlying36 hi0 hz0 hz1 hz2 rfl (by decide) v2 (0 + A.length + 1) ([] ++ A.flatMap tmf ++ [.string k, .int .i64 (y2 : Int)]) (by rfl) HO4.out tmf_len D (highAd (some ⟨b, off, none⟩) cap1 A.length) (cap1 - A.length) (by rfl) HRows.out.2.2 (HRows.out.2.1.gr HG4.out) (tmf_flat_one D) (by have := HLen.out; unfold maxLen; omega) (by have := HLen.out; omega) HG4.out.size ?_
                intro v3 W5 ho5 hg5
                have HG5 : Hid (Gr w1 W5) := HG4.out.grown hg5 (fun j hj => (HO4.out.lt j hj).1)
                have HO5 : Hid (W5.ownsRow w1.heap.size 61 2 v3 (A ++ (k, y2) :: D).length ((A ++ (k, y2) :: D).flatMap tmf)) := by
                  show W5.ownsRow _ _ _ _ _ _
                  have e1 : (A ++ (k, y2) :: D).length = 0 + A.length + 1 + D.length := by simp; omega
                  have e2 : (A ++ (k, y2) :: D).flatMap tmf = [] ++ A.flatMap tmf ++ [.string k, .int .i64 (y2 : Int)] ++ D.flatMap tmf := by simp [List.flatMap_append, tmf]
                  rw [e1, e2]; exact ho5
                clear ho5 hg5
                refine hK.out (Act.put _ (some 112) v3) _ (HG5.out.keep hd1) (fun hHeld => ?_)
                clear hK K
                simp only [Act.put, List.setIfInBounds_toArray, List.set_cons_zero, List.set_cons_succ]
                refine takeW 21 113 (v := ?_) rfl rfl (by decide) (by kernel_rfl) (by kernel_rfl) (by kernel_rfl) (fun _ _ _ h => h) (by rfl) ?_ (fun _ => hHeld) ?_
                rotate_left
                · (intro w; (try intro hSw); (try dsimp only at hSw); go_simp; try with_reducible rfl)
                simp only [Act.put, List.setIfInBounds_toArray, List.set_cons_zero, List.set_cons_succ]
                refine takeW 22 114 (v := ?_) rfl rfl (by decide) (by kernel_rfl) (by kernel_rfl) (by kernel_rfl) (fun _ _ _ h => h) (by rfl) ?_ (fun _ => hHeld) ?_
                rotate_left
                · (intro w; (try intro hSw); (try dsimp only at hSw); go_simp; try with_reducible rfl)
                simp only [Act.put, List.setIfInBounds_toArray, List.set_cons_zero, List.set_cons_succ]
                clear hHeld
                obtain ⟨p1, q1, hv3⟩ := own_slice HO5.out
                rw [hv3] at HO5 ⊢
                have HF := Lib.hid (HR1.out.trans (HH.out.laid HG5.out HO5.out))
                have c5 := HG5.out.keep hd1
                have f5 := (HH.out.gr HG5.out).f1
                have l5 := (HH.out.gr HG5.out).lt
                generalize (A ++ (k, y2) :: D).length = nn at *
                refine stepS (by kernel_rfl) rfl (by kernel_rfl) (fun K hK => ?_)
                go_simp
                refine hK.out _ _ ?_
                clear hK K
                refine doneL (by kernel_rfl) ?_ _
                go_wp2
                go_ret
                exact ⟨rfl, by rw [HIn.out]; exact HF.out⟩
              · skip
                go_simp
                have HO2 := Lib.hid (HO1.out.alloc (.cells #[.string k, .int .i64 (y2 : Int)] 61))
                have HG2 : Hid (Gr w1 (W1.alloc (.cells #[.string k, .int .i64 (y2 : Int)] 61))) := HG1.out.alloc
                have HC : Hid (∀ j u, [Value.string k, .int .i64 (y2 : Int)][j]? = some u → World.cell? (W1.alloc (.cells #[.string k, .int .i64 (y2 : Int)] 61)) ((⟨W1.heap.size, 0, none⟩ : Addr).add j) = some u) := cells_two rfl
                obtain ⟨W2, hW2⟩ : ∃ x, x = W1.alloc (.cells #[.string k, .int .i64 (y2 : Int)] 61) := ⟨_, rfl⟩
                rw [← hW2] at HO2 HG2 HC ⊢
                clear hW2
                refine hK.out _ _ (HG2.out.keep hd1) ?_
                clear hK K
                refine stepC 8 (by kernel_rfl) rfl (fun K hK => ?_)
                refine step_append_row (by rfl) _ _ 36 (by rfl) w1.heap.size 61 i0 (.agg #[.string ⟨#[]⟩, .int .i64 0]) 2 24 Tryd.underlying36 hi0 hz0 hz1 hz2 rfl (by decide) _ 0 [] (by rfl) HO2.out tmf_len A (some ⟨b, off, none⟩) cap1 (by rfl) HNil.out (HRows.out.1.gr HG2.out) (tmf_flat_one A) (by have := HLen.out; unfold maxLen; omega) (by have := HLen.out; omega) HG2.out.size ?_
                intro v1 W3 ho3 hg3
                have HO3 := Lib.hid ho3
                have HG3 : Hid (Gr w1 W3) := HG2.out.grown hg3 (fun j hj => (HO2.out.lt j hj).1)
                have HC3 : Hid (∀ j u, [Value.string k, .int .i64 (y2 : Int)][j]? = some u → World.cell? W3 ((⟨W1.heap.size, 0, none⟩ : Addr).add j) = some u) := fun j u hj => hg3.cell (HC.out j u hj) (fun e => by rw [Addr.add_lit] at e; injection e with e; simp only at e; have := HsV.out _ rfl; unfold World.size0 at this; omega)
                clear ho3 hg3 HC
                refine hK.out (Act.put _ (some 100) v1) _ (HG3.out.keep hd1) (fun _ => ?_)
                clear hK K
                simp only [Act.put, List.setIfInBounds_toArray, List.set_cons_zero, List.set_cons_succ]
                clear hHeld
                refine stepC 13 (by kernel_rfl) rfl (fun K hK => ?_)
                refine step_append_at (by rfl) _ _ 36 (by rfl) w1.heap.size 61 i0 (.agg #[.string ⟨#[]⟩, .int .i64 0]) 2 24 Tryd.underlying36 hi0 hz0 hz1 hz2 rfl (by decide) v1 (0 + A.length) ([] ++ A.flatMap tmf) (by rfl) HO3.out ⟨W1.heap.size, 0, none⟩ 1 1 [.string k, .int .i64 (y2 : Int)] (by rfl) rfl HC3.out (by intro u hu; simp at hu; rcases hu with rfl | rfl <;> rfl) (by have := HLen.out; unfold maxLen; omega) (by have := HLen.out; omega) HG3.out.size ?_
                intro v2 W4 ho4 hg4 hat4
                have HO4 := Lib.hid ho4
                have HG4 : Hid (Gr w1 W4) := HG3.out.grown hg4 (fun j hj => (HO3.out.lt j hj).1)
                clear ho4 hg4 hat4
                refine hK.out (Act.put _ (some 105) v2) _ (HG4.out.keep hd1) (fun _ => ?_)
                clear hK K
                simp only [Act.put, List.setIfInBounds_toArray, List.set_cons_zero, List.set_cons_succ]
                refine stepC 20 (by kernel_rfl) rfl (fun K hK => ?_)
                refine step_append_row (by rfl) _ _ 36 (by rfl) w1.heap.size 61 i0 (.agg #[.string ⟨#[]⟩, .int .i64 0]) 2 24 Tryd.underlying36 hi0 hz0 hz1 hz2 rfl (by decide) v2 (0 + A.length + 1) ([] ++ A.flatMap tmf ++ [.string k, .int .i64 (y2 : Int)]) (by rfl) HO4.out tmf_len D (highAd (some ⟨b, off, none⟩) cap1 A.length) (cap1 - A.length) (by rfl) HRows.out.2.2 (HRows.out.2.1.gr HG4.out) (tmf_flat_one D) (by have := HLen.out; unfold maxLen; omega) (by have := HLen.out; omega) HG4.out.size ?_
                intro v3 W5 ho5 hg5
                have HG5 : Hid (Gr w1 W5) := HG4.out.grown hg5 (fun j hj => (HO4.out.lt j hj).1)
                have HO5 : Hid (W5.ownsRow w1.heap.size 61 2 v3 (A ++ (k, y2) :: D).length ((A ++ (k, y2) :: D).flatMap tmf)) := by
                  show W5.ownsRow _ _ _ _ _ _
                  have e1 : (A ++ (k, y2) :: D).length = 0 + A.length + 1 + D.length := by simp; omega
                  have e2 : (A ++ (k, y2) :: D).flatMap tmf = [] ++ A.flatMap tmf ++ [.string k, .int .i64 (y2 : Int)] ++ D.flatMap tmf := by simp [List.flatMap_append, tmf]
                  rw [e1, e2]; exact ho5
                clear ho5 hg5
                refine hK.out (Act.put _ (some 112) v3) _ (HG5.out.keep hd1) (fun hHeld => ?_)
                clear hK K
                simp only [Act.put, List.setIfInBounds_toArray, List.set_cons_zero, List.set_cons_succ]
                refine takeW 21 113 (v := ?_) rfl rfl (by decide) (by kernel_rfl) (by kernel_rfl) (by kernel_rfl) (fun _ _ _ h => h) (by rfl) ?_ (fun _ => hHeld) ?_
                rotate_left
                · (intro w; (try intro hSw); (try dsimp only at hSw); go_simp; try with_reducible rfl)
                simp only [Act.put, List.setIfInBounds_toArray, List.set_cons_zero, List.set_cons_succ]
                refine takeW 22 114 (v := ?_) rfl rfl (by decide) (by kernel_rfl) (by kernel_rfl) (by kernel_rfl) (fun _ _ _ h => h) (by rfl) ?_ (fun _ => hHeld) ?_
                rotate_left
                · (intro w; (try intro hSw); (try dsimp only at hSw); go_simp; try with_reducible rfl)
                simp only [Act.put, List.setIfInBounds_toArray, List.set_cons_zero, List.set_cons_succ]
                clear hHeld
                obtain ⟨p1, q1, hv3⟩ := own_slice HO5.out
                rw [hv3] at HO5 ⊢
                have HF := Lib.hid (HR1.out.trans (HH.out.laid HG5.out HO5.out))
                have c5 := HG5.out.keep hd1
                have f5 := (HH.out.gr HG5.out).f1
                have l5 := (HH.out.gr HG5.out).lt
                generalize (A ++ (k, y2) :: D).length = nn at *
                refine stepS (by kernel_rfl) rfl (by kernel_rfl) (fun K hK => ?_)
                go_simp
                refine hK.out _ _ ?_
                clear hK K
                refine doneL (by kernel_rfl) ?_ _
                go_wp2
                go_ret
                exact ⟨rfl, by rw [HIn.out]; exact HF.out⟩
            · skip
              go_simp
              have HG1 : Hid (Gr w1 (V.alloc (.cells #[.string k, .int .i64 (y2 : Int)] 61))) := HGV.out.alloc
              have HC : Hid (∀ j u, [Value.string k, .int .i64 (y2 : Int)][j]? = some u → World.cell? (V.alloc (.cells #[.string k, .int .i64 (y2 : Int)] 61)) ((⟨V.heap.size, 0, none⟩ : Addr).add j) = some u) := cells_two rfl
              have HsV : Hid (∀ g, g = World.size0 (V.alloc (.cells #[.string k, .int .i64 (y2 : Int)] 61)) → V.heap.size < g) := fun g hg => by rw [hg]; simp [World.size0]
              obtain ⟨W1, hW1⟩ : ∃ x, x = V.alloc (.cells #[.string k, .int .i64 (y2 : Int)] 61) := ⟨_, rfl⟩
              rw [← hW1] at HG1 HC HsV ⊢
              clear hW1
              refine hK.out _ _ (HG1.out.keep hd1) ?_
              clear hK K
              refine stepC 1 (by kernel_rfl) rfl (fun K hK => ?_)
              go_simp
              have HO2 : Hid (World.ownsRow (W1.alloc (.cells #[] 61)) w1.heap.size 61 2 (.slice (some ⟨W1.heap.size, 0, none⟩) 0 0) 0 []) := own_lit0 W1 w1.heap.size 61 _ rfl HG1.out.size
              have HG2 : Hid (Gr w1 (W1.alloc (.cells #[] 61))) := HG1.out.alloc
              have HC2 : Hid (∀ j u, [Value.string k, .int .i64 (y2 : Int)][j]? = some u → World.cell? (W1.alloc (.cells #[] 61)) ((⟨V.heap.size, 0, none⟩ : Addr).add j) = some u) := fun j u hj => (Gr.refl _).alloc.keep (HC.out j u hj)
              obtain ⟨W2, hW2⟩ : ∃ x, x = W1.alloc (.cells #[] 61) := ⟨_, rfl⟩
              rw [← hW2] at HO2 HG2 HC2 ⊢
              clear hW2 HC
              refine hK.out _ _ (HG2.out.keep hd1) (fun _ => ?_)
              clear hK K
              refine stepC 8 (by kernel_rfl) rfl (fun K hK => ?_)
              refine step_append_row (by rfl) _ _ 36 (by rfl) w1.heap.size 61 i0 (.agg #[.string ⟨#[]⟩, .int .i64 0]) 2 24 Tryd.underlying36 hi0 hz0 hz1 hz2 rfl (by decide) _ 0 [] (by rfl) HO2.out tmf_len A (some ⟨b, off, none⟩) cap1 (by rfl) HNil.out (HRows.out.1.gr HG2.out) (tmf_flat_one A) (by have := HLen.out; unfold maxLen; omega) (by have := HLen.out; omega) HG2.out.size ?_
              intro v1 W3 ho3 hg3
              have HO3 := Lib.hid ho3
              have HG3 : Hid (Gr w1 W3) := HG2.out.grown hg3 (fun j hj => (HO2.out.lt j hj).1)
              have HC3 : Hid (∀ j u, [Value.string k, .int .i64 (y2 : Int)][j]? = some u → World.cell? W3 ((⟨V.heap.size, 0, none⟩ : Addr).add j) = some u) := fun j u hj => hg3.cell (HC2.out j u hj) (fun e => by rw [Addr.add_lit] at e; injection e with e; simp only at e; have := HsV.out _ rfl; unfold World.size0 at this; omega)
              clear ho3 hg3 HC2
              refine hK.out (Act.put _ (some 100) v1) _ (HG3.out.keep hd1) (fun _ => ?_)
              clear hK K
              simp only [Act.put, List.setIfInBounds_toArray, List.set_cons_zero, List.set_cons_succ]
              clear hHeld
              refine stepC 13 (by kernel_rfl) rfl (fun K hK => ?_)
              refine step_append_at (by rfl) _ _ 36 (by rfl) w1.heap.size 61 i0 (.agg #[.string ⟨#[]⟩, .int .i64 0]) 2 24 Tryd.underlying36 hi0 hz0 hz1 hz2 rfl (by decide) v1 (0 + A.length) ([] ++ A.flatMap tmf) (by rfl) HO3.out ⟨V.heap.size, 0, none⟩ 1 1 [.string k, .int .i64 (y2 : Int)] (by rfl) rfl HC3.out (by intro u hu; simp at hu; rcases hu with rfl | rfl <;> rfl) (by have := HLen.out; unfold maxLen; omega) (by have := HLen.out; omega) HG3.out.size ?_
              intro v2 W4 ho4 hg4 hat4
              have HO4 := Lib.hid ho4
              have HG4 : Hid (Gr w1 W4) := HG3.out.grown hg4 (fun j hj => (HO3.out.lt j hj).1)
              clear ho4 hg4 hat4
              refine hK.out (Act.put _ (some 105) v2) _ (HG4.out.keep hd1) (fun _ => ?_)
              clear hK K
              simp only [Act.put, List.setIfInBounds_toArray, List.set_cons_zero, List.set_cons_succ]
              refine stepC 20 (by kernel_rfl) rfl (fun K hK => ?_)
              refine step_append_row (by rfl) _ _ 36 (by rfl) w1.heap.size 61 i0 (.agg #[.string ⟨#[]⟩, .int .i64 0]) 2 24 Tryd.underlying36 hi0 hz0 hz1 hz2 rfl (by decide) v2 (0 + A.length + 1) ([] ++ A.flatMap tmf ++ [.string k, .int .i64 (y2 : Int)]) (by rfl) HO4.out tmf_len D (highAd (some ⟨b, off, none⟩) cap1 A.length) (cap1 - A.length) (by rfl) HRows.out.2.2 (HRows.out.2.1.gr HG4.out) (tmf_flat_one D) (by have := HLen.out; unfold maxLen; omega) (by have := HLen.out; omega) HG4.out.size ?_
              intro v3 W5 ho5 hg5
              have HG5 : Hid (Gr w1 W5) := HG4.out.grown hg5 (fun j hj => (HO4.out.lt j hj).1)
              have HO5 : Hid (W5.ownsRow w1.heap.size 61 2 v3 (A ++ (k, y2) :: D).length ((A ++ (k, y2) :: D).flatMap tmf)) := by
                show W5.ownsRow _ _ _ _ _ _
                have e1 : (A ++ (k, y2) :: D).length = 0 + A.length + 1 + D.length := by simp; omega
                have e2 : (A ++ (k, y2) :: D).flatMap tmf = [] ++ A.flatMap tmf ++ [.string k, .int .i64 (y2 : Int)] ++ D.flatMap tmf := by simp [List.flatMap_append, tmf]
                rw [e1, e2]; exact ho5
              clear ho5 hg5
              refine hK.out (Act.put _ (some 112) v3) _ (HG5.out.keep hd1) (fun hHeld => ?_)
              clear hK K
              simp only [Act.put, List.setIfInBounds_toArray, List.set_cons_zero, List.set_cons_succ]
              refine takeW 21 113 (v := ?_) rfl rfl (by decide) (by kernel_rfl) (by kernel_rfl) (by kernel_rfl) (fun _ _ _ h => h) (by rfl) ?_ (fun _ => hHeld) ?_
              rotate_left
              · (intro w; (try intro hSw); (try dsimp only at hSw); go_simp; try with_reducible rfl)
              simp only [Act.put, List.setIfInBounds_toArray, List.set_cons_zero, List.set_cons_succ]
              refine takeW 22 114 (v := ?_) rfl rfl (by decide) (by kernel_rfl) (by kernel_rfl) (by kernel_rfl) (fun _ _ _ h => h) (by rfl) ?_ (fun _ => hHeld) ?_
              rotate_left
              · (intro w; (try intro hSw); (try dsimp only at hSw); go_simp; try with_reducible rfl)
              simp only [Act.put, List.setIfInBounds_toArray, List.set_cons_zero, List.set_cons_succ]
              clear hHeld
              obtain ⟨p1, q1, hv3⟩ := own_slice HO5.out
              rw [hv3] at HO5 ⊢
              have HF := Lib.hid (HR1.out.trans (HH.out.laid HG5.out HO5.out))
              have c5 := HG5.out.keep hd1
              have f5 := (HH.out.gr HG5.out).f1
              have l5 := (HH.out.gr HG5.out).lt
              generalize (A ++ (k, y2) :: D).length = nn at *
              refine stepS (by kernel_rfl) rfl (by kernel_rfl) (fun K hK => ?_)
              go_simp
              refine hK.out _ _ ?_
              clear hK K
              refine doneL (by kernel_rfl) ?_ _
              go_wp2
              go_ret
              exact ⟨rfl, by rw [HIn.out]; exact HF.out⟩
          · have hyb : ((y2 : Int) == (a : Int)) = false := by simp; omega
            clear hn1 hn2 hya
            subst hadq
            go_upto_region 12 with fail
            refine beginL 23 (fun w' => w'.cell? ⟨r, 1, none⟩ = some (.slice (some ⟨b, off, none⟩) M.length cap1)) (by kernel_rfl) (by exact hdr) (fun hHeld => ?_)
            refine takeW 0 92 (v := ?_) rfl rfl (by decide) (by kernel_rfl) (by kernel_rfl) (by kernel_rfl) (fun _ _ _ h => h) (by rfl) ?_ (fun _ => hHeld) ?_
            rotate_left
            · (intro w; (try intro hSw); (try dsimp only at hSw); go_simp; try with_reducible rfl)
            simp only [Act.put, List.setIfInBounds_toArray, List.set_cons_zero, List.set_cons_succ]
            refine takeW 2 94 (v := ?_) rfl rfl (by decide) (by kernel_rfl) (by kernel_rfl) (by kernel_rfl) (fun _ _ _ h => h) (by rfl) ?_ (fun _ => hHeld) ?_
            rotate_left
            · (intro w; (try intro hSw); (try dsimp only at hSw); go_simp; try with_reducible rfl)
            simp only [Act.put, List.setIfInBounds_toArray, List.set_cons_zero, List.set_cons_succ]
            refine takeW 3 95 (v := ?_) rfl rfl (by decide) (by kernel_rfl) (by kernel_rfl) (by kernel_rfl) (fun _ _ _ h => h) (by rfl) ?_ (fun _ => hHeld) ?_
            rotate_left
            · (intro w; (try intro hSw); (try dsimp only at hSw); go_simp; try with_reducible rfl)
            simp only [Act.put, List.setIfInBounds_toArray, List.set_cons_zero, List.set_cons_succ]
            refine takeW 4 96 (v := ?_) rfl rfl (by decide) (by kernel_rfl) (by kernel_rfl) (by kernel_rfl) (fun _ _ _ h => h) (by rfl) ?_ (fun _ => hHeld) ?_
            rotate_left
            · (intro w; (try intro hSw); (try dsimp only at hSw); go_simp; try with_reducible rfl)
            simp only [Act.put, List.setIfInBounds_toArray, List.set_cons_zero, List.set_cons_succ]
            refine takeS 5 97 (v := ?_) rfl rfl (by decide) (by kernel_rfl) (by kernel_rfl) (by kernel_rfl) (by kernel_rfl) (by kernel_rfl) (fun _ _ _ h => h) (by rfl) ?_ hHeld ?_
            rotate_left
            · (intro w; (try intro hSw); (try dsimp only at hSw); go_simp; try with_reducible rfl)
            simp only [Act.put, List.setIfInBounds_toArray, List.set_cons_zero, List.set_cons_succ]
            refine takeW 6 98 (v := ?_) rfl rfl (by decide) (by kernel_rfl) (by kernel_rfl) (by kernel_rfl) (fun _ _ _ h => h) (by rfl) ?_ (fun _ => hHeld) ?_
            rotate_left
            · (intro w; (try intro hSw); (try dsimp only at hSw); go_simp; try with_reducible rfl)
            simp only [Act.put, List.setIfInBounds_toArray, List.set_cons_zero, List.set_cons_succ]
            refine takeW 7 99 (v := ?_) rfl rfl (by decide) (by kernel_rfl) (by kernel_rfl) (by kernel_rfl) (fun _ _ _ h => h) (by rfl) ?_ (fun _ => hHeld) ?_
            rotate_left
            · (intro w; (try intro hSw); (try dsimp only at hSw); go_simp; try with_reducible rfl)
            simp only [Act.put, List.setIfInBounds_toArray, List.set_cons_zero, List.set_cons_succ]
            refine takeW 9 101 (v := ?_) rfl rfl (by decide) (by kernel_rfl) (by kernel_rfl) (by kernel_rfl) (fun _ _ _ h => h) (by rfl) ?_ (fun _ => hHeld) ?_
            rotate_left
            · (intro w; (try intro hSw); (try dsimp only at hSw); go_simp; try with_reducible rfl)
            simp only [Act.put, List.setIfInBounds_toArray, List.set_cons_zero, List.set_cons_succ]
            refine takeW 10 102 (v := ?_) rfl rfl (by decide) (by kernel_rfl) (by kernel_rfl) (by kernel_rfl) (fun _ _ _ h => h) (by rfl) ?_ (fun _ => hHeld) ?_
            rotate_left
            · (intro w; (try intro hSw); (try dsimp only at hSw); go_simp; try with_reducible rfl)
            simp only [Act.put, List.setIfInBounds_toArray, List.set_cons_zero, List.set_cons_succ]
            refine takeW 11 103 (v := ?_) rfl rfl (by decide) (by kernel_rfl) (by kernel_rfl) (by kernel_rfl) (fun _ _ _ h => h) (by rfl) ?_ (fun _ => hHeld) ?_
            rotate_left
            · (intro w; (try intro hSw); (try dsimp only at hSw); go_simp; try with_reducible rfl)
            simp only [Act.put, List.setIfInBounds_toArray, List.set_cons_zero, List.set_cons_succ]
            refine takeW 14 106 (v := ?_) rfl rfl (by decide) (by kernel_rfl) (by kernel_rfl) (by kernel_rfl) (fun _ _ _ h => h) (by rfl) ?_ (fun _ => hHeld) ?_
            rotate_left
            · (intro w; (try intro hSw); (try dsimp only at hSw); go_simp; try with_reducible rfl)
            simp only [Act.put, List.setIfInBounds_toArray, List.set_cons_zero, List.set_cons_succ]
            refine takeW 15 107 (v := ?_) rfl rfl (by decide) (by kernel_rfl) (by kernel_rfl) (by kernel_rfl) (fun _ _ _ h => h) (by rfl) ?_ (fun _ => hHeld) ?_
            rotate_left
            · (intro w; (try intro hSw); (try dsimp only at hSw); go_simp; try with_reducible rfl)
            simp only [Act.put, List.setIfInBounds_toArray, List.set_cons_zero, List.set_cons_succ]
            refine takeW 16 108 (v := ?_) rfl rfl (by decide) (by kernel_rfl) (by kernel_rfl) (by kernel_rfl) (fun _ _ _ h => h) (by rfl) ?_ (fun _ => hHeld) ?_
            rotate_left
            · (intro w; (try intro hSw); (try dsimp only at hSw); go_simp; try with_reducible rfl)
            simp only [Act.put, List.setIfInBounds_toArray, List.set_cons_zero, List.set_cons_succ]
            refine takeS 17 109 (v := ?_) rfl rfl (by decide) (by kernel_rfl) (by kernel_rfl) (by kernel_rfl) (by kernel_rfl) (by kernel_rfl) (fun _ _ _ h => h) (by rfl) ?_ hHeld ?_
            rotate_left
            · (intro w; (try intro hSw); (try dsimp only at hSw); go_simp; try with_reducible rfl)
            simp only [Act.put, List.setIfInBounds_toArray, List.set_cons_zero, List.set_cons_succ]
            refine takeW 18 110 (v := ?_) rfl rfl (by decide) (by kernel_rfl) (by kernel_rfl) (by kernel_rfl) (fun _ _ _ h => h) (by rfl) ?_ (fun _ => hHeld) ?_
            rotate_left
            · (intro w; (try intro hSw); (try dsimp only at hSw); go_simp; try with_reducible rfl)
            simp only [Act.put, List.setIfInBounds_toArray, List.set_cons_zero, List.set_cons_succ]
            refine takeW 19 111 (v := ?_) rfl rfl (by decide) (by kernel_rfl) (by kernel_rfl) (by kernel_rfl) (fun _ _ _ h => h) (by rfl) ?_ (fun _ => hHeld) ?_
            rotate_left
            · (intro w; (try intro hSw); (try dsimp only at hSw); go_simp; try with_reducible rfl)
            simp only [Act.put, List.setIfInBounds_toArray, List.set_cons_zero, List.set_cons_succ]
            obtain ⟨V, hV⟩ : ∃ V, V = w1.drew := ⟨_, rfl⟩
            rw [← hV] at HGV ⊢
            clear hV hdr
            refine stepC2 1 12 (by kernel_rfl) rfl rfl (fun K hK => ?_) (fun K hK => ?_)
            · skip
              go_simp
              have HO1 : Hid (World.ownsRow (V.alloc (.cells #[] 61)) w1.heap.size 61 2 (.slice (some ⟨V.heap.size, 0, none⟩) 0 0) 0 []) := own_lit0 V w1.heap.size 61 _ rfl HGV.out.size
              have HG1 : Hid (Gr w1 (V.alloc (.cells #[] 61))) := HGV.out.alloc
              have HsV : Hid (∀ g, g = World.size0 (V.alloc (.cells #[] 61)) → V.heap.size < g) := fun g hg => by rw [hg]; simp [World.size0]
              obtain ⟨W1, hW1⟩ : ∃ x, x = V.alloc (.cells #[] 61) := ⟨_, rfl⟩
              rw [← hW1] at HO1 HG1 HsV ⊢
              clear hW1
              refine hK.out _ _ (HG1.out.keep hd1) ?_
              clear hK K
              refine stepC2 8 12 (by kernel_rfl) rfl rfl (fun K hK => ?_) (fun K hK => ?_)
              · skip
                refine step_append_row (by rfl) _ _ 36 (by rfl) w1.heap.size 61 i0 (.agg #[.string ⟨#[]⟩, .int .i64 0]) 2 24 Tryd.underlying36 hi0 hz0 hz1 hz2 rfl (by decide) _ 0 [] (by rfl) HO1.out tmf_len A (some ⟨b, off, none⟩) cap1 (by rfl) HNil.out (HRows.out.1.gr HG1.out) (tmf_flat_one A) (by have := HLen.out; unfold maxLen; omega) (by have := HLen.out; omega) HG1.out.size ?_
                intro v1 W2 ho2 hg2
                have HO2 := Lib.hid ho2
                have HG2 : Hid (Gr w1 W2) := HG1.out.grown hg2 (fun j hj => (HO1.out.lt j hj).1)
                clear ho2 hg2
                refine hK.out (Act.put _ (some 100) v1) _ (HG2.out.keep hd1) ?_
                clear hK K
                simp only [Act.put, List.setIfInBounds_toArray, List.set_cons_zero, List.set_cons_succ]
                refine stepC 12 (by kernel_rfl) rfl (fun K hK => ?_)
                go_simp
                have HO3 := Lib.hid (HO2.out.alloc (.cells #[.string k, .int .i64 (a : Int)] 61))
                have HG3 : Hid (Gr w1 (W2.alloc (.cells #[.string k, .int .i64 (a : Int)] 61))) := HG2.out.alloc
                have HC : Hid (∀ j u, [Value.string k, .int .i64 (a : Int)][j]? = some u → World.cell? (W2.alloc (.cells #[.string k, .int .i64 (a : Int)] 61)) ((⟨W2.heap.size, 0, none⟩ : Addr).add j) = some u) := cells_two rfl
                obtain ⟨W3, hW3⟩ : ∃ x, x = W2.alloc (.cells #[.string k, .int .i64 (a : Int)] 61) := ⟨_, rfl⟩
                rw [← hW3] at HO3 HG3 HC ⊢
                clear hW3
                refine hK.out _ _ (HG3.out.keep hd1) (fun _ => ?_)
                clear hK K
                clear hHeld
                refine stepC 13 (by kernel_rfl) rfl (fun K hK => ?_)
                refine step_append_at (by rfl) _ _ 36 (by rfl) w1.heap.size 61 i0 (.agg #[.string ⟨#[]⟩, .int .i64 0]) 2 24 Tryd.underlying36 hi0 hz0 hz1 hz2 rfl (by decide) v1 (0 + A.length) ([] ++ A.flatMap tmf) (by rfl) HO3.out ⟨W2.heap.size, 0, none⟩ 1 1 [.string k, .int .i64 (a : Int)] (by rfl) rfl HC.out (by intro u hu; simp at hu; rcases hu with rfl | rfl <;> rfl) (by have := HLen.out; unfold maxLen; omega) (by have := HLen.out; omega) HG3.out.size ?_
                intro v2 W4 ho4 hg4 hat4
                have HO4 := Lib.hid ho4
                have HG4 : Hid (Gr w1 W4) := HG3.out.grown hg4 (fun j hj => (HO3.out.lt j hj).1)
                clear ho4 hg4 hat4
                refine hK.out (Act.put _ (some 105) v2) _ (HG4.out.keep hd1) (fun _ => ?_)
                clear hK K
                simp only [Act.put, List.setIfInBounds_toArray, List.set_cons_zero, List.set_cons_succ]
                refine stepC 20 (by kernel_rfl) rfl (fun K hK => ?_)
                refine step_append_row (by rfl) _ _ 36 (by rfl) w1.heap.size 61 i0 (.agg #[.string ⟨#[]⟩, .int .i64 0]) 2 24 Tryd.underlying36 hi0 hz0 hz1 hz2 rfl (by decide) v2 (0 + A.length + 1) ([] ++ A.flatMap tmf ++ [.string k, .int .i64 (a : Int)]) (by rfl) HO4.out tmf_len D (highAd (some ⟨b, off, none⟩) cap1 A.length) (cap1 - A.length) (by rfl) HRows.out.2.2 (HRows.out.2.1.gr HG4.out) (tmf_flat_one D) (by have := HLen.out; unfold maxLen; omega) (by have := HLen.out; omega) HG4.out.size ?_
                intro v3 W5 ho5 hg5
                have HG5 : Hid (Gr w1 W5) := HG4.out.grown hg5 (fun j hj => (HO4.out.lt j hj).1)
                have HO5 : Hid (W5.ownsRow w1.heap.size 61 2 v3 (A ++ (k, a) :: D).length ((A ++ (k, a) :: D).flatMap tmf)) := by
                  show W5.ownsRow _ _ _ _ _ _
                  have e1 : (A ++ (k, a) :: D).length = 0 + A.length + 1 + D.length := by simp; omega
                  have e2 : (A ++ (k, a) :: D).flatMap tmf = [] ++ A.flatMap tmf ++ [.string k, .int .i64 (a : Int)] ++ D.flatMap tmf := by simp [List.flatMap_append, tmf]
                  rw [e1, e2]; exact ho5
                clear ho5 hg5
                refine hK.out (Act.put _ (some 112) v3) _ (HG5.out.keep hd1) (fun hHeld => ?_)
                clear hK K
                simp only [Act.put, List.setIfInBounds_toArray, List.set_cons_zero, List.set_cons_succ]
                refine takeW 21 113 (v := ?_) rfl rfl (by decide) (by kernel_rfl) (by kernel_rfl) (by kernel_rfl) (fun _ _ _ h => h) (by rfl) ?_ (fun _ => hHeld) ?_
                rotate_left
                · (intro w; (try intro hSw); (try dsimp only at hSw); go_simp; try with_reducible rfl)
                simp only [Act.put, List.setIfInBounds_toArray, List.set_cons_zero, List.set_cons_succ]
                refine takeW 22 114 (v := ?_) rfl rfl (by decide) (by kernel_rfl) (by kernel_rfl) (by kernel_rfl) (fun _ _ _ h => h) (by rfl) ?_ (fun _ => hHeld) ?_
                rotate_left
                · (intro w; (try intro hSw); (try dsimp only at hSw); go_simp; try with_reducible rfl)
                simp only [Act.put, List.setIfInBounds_toArray, List.set_cons_zero, List.set_cons_succ]
                clear hHeld
                obtain ⟨p1, q1, hv3⟩ := own_slice HO5.out
                rw [hv3] at HO5 ⊢
                have HF := Lib.hid (HR1.out.trans (HH.out.laid HG5.out HO5.out))
                have c5 := HG5.out.keep hd1
                have f5 := (HH.out.gr HG5.out).f1
                have l5 := (HH.out.gr HG5.out).lt
                generalize (A ++ (k, a) :: D).length = nn at *
                refine stepS (by kernel_rfl) rfl (by kernel_rfl) (fun K hK => ?_)
                go_simp
                refine hK.out _ _ ?_
                clear hK K
                refine doneL (by kernel_rfl) ?_ _
                go_wp2
                go_ret
                exact ⟨rfl, by rw [HIn.out]; exact HF.out⟩
              · skip
                go_simp
                have HO2 := Lib.hid (HO1.out.alloc (.cells #[.string k, .int .i64 (a : Int)] 61))
                have HG2 : Hid (Gr w1 (W1.alloc (.cells #[.string k, .int .i64 (a : Int)] 61))) := HG1.out.alloc
                have HC : Hid (∀ j u, [Value.string k, .int .i64 (a : Int)][j]? = some u → World.cell? (W1.alloc (.cells #[.string k, .int .i64 (a : Int)] 61)) ((⟨W1.heap.size, 0, none⟩ : Addr).add j) = some u) := cells_two rfl
                obtain ⟨W2, hW2⟩ : ∃ x, x = W1.alloc (.cells #[.string k, .int .i64 (a : Int)] 61) := ⟨_, rfl⟩
                rw [← hW2] at HO2 HG2 HC ⊢
                clear hW2
                refine hK.out _ _ (HG2.out.keep hd1) ?_
                clear hK K
                refine stepC 8 (by kernel_rfl) rfl (fun K hK => ?_)
                refine step_append_row (by rfl) _ _ 36 (by rfl) w1.heap.size 61 i0 (.agg #[.string ⟨#[]⟩, .int .i64 0]) 2 24 Tryd.underlying36 hi0 hz0 hz1 hz2 rfl (by decide) _ 0 [] (by rfl) HO2.out tmf_len A (some ⟨b, off, none⟩) cap1 (by rfl) HNil.out (HRows.out.1.gr HG2.out) (tmf_flat_one A) (by have := HLen.out; unfold maxLen; omega) (by have := HLen.out; omega) HG2.out.size ?_
                intro v1 W3 ho3 hg3
                have HO3 := Lib.hid ho3
                have HG3 : Hid (Gr w1 W3) := HG2.out.grown hg3 (fun j hj => (HO2.out.lt j hj).1)
                have HC3 : Hid (∀ j u, [Value.string k, .int .i64 (a : Int)][j]? = some u → World.cell? W3 ((⟨W1.heap.size, 0, none⟩ : Addr).add j) = some u) := fun j u hj => hg3.cell (HC.out j u hj) (fun e => by rw [Addr.add_lit] at e; injection e with e; simp only at e; have := HsV.out _ rfl; unfold World.size0 at this; omega)
                clear ho3 hg3 HC
                refine hK.out (Act.put _ (some 100) v1) _ (HG3.out.keep hd1) (fun _ => ?_)
                clear hK K
                simp only [Act.put, List.setIfInBounds_toArray, List.set_cons_zero, List.set_cons_succ]
                clear hHeld
                refine stepC 13 (by kernel_rfl) rfl (fun K hK => ?_)
                refine step_append_at (by rfl) _ _ 36 (by rfl) w1.heap.size 61 i0 (.agg #[.string ⟨#[]⟩, .int .i64 0]) 2 24 Tryd.underlying36 hi0 hz0 hz1 hz2 rfl (by decide) v1 (0 + A.length) ([] ++ A.flatMap tmf) (by rfl) HO3.out ⟨W1.heap.size, 0, none⟩ 1 1 [.string k, .int .i64 (a : Int)] (by rfl) rfl HC3.out (by intro u hu; simp at hu; rcases hu with rfl | rfl <;> rfl) (by have := HLen.out; unfold maxLen; omega) (by have := HLen.out; omega) HG3.out.size ?_
                intro v2 W4 ho4 hg4 hat4
                have HO4 := Lib.hid ho4
                have HG4 : Hid (Gr w1 W4) := HG3.out.grown hg4 (fun j hj => (HO3.out.lt j hj).1)
                clear ho4 hg4 hat4
                refine hK.out (Act.put _ (some 105) v2) _ (HG4.out.keep hd1) (fun _ => ?_)
                clear hK K
                simp only [Act.put, List.setIfInBounds_toArray, List.set_cons_zero, List.set_cons_succ]
                refine stepC 20 (by kernel_rfl) rfl (fun K hK => ?_)
                refine step_append_row (by rfl) _ _ 36 (by rfl) w1.heap.size 61 i0 (.agg #[.string ⟨#[]⟩, .int .i64 0]) 2 24 Tryd.underlying36 hi0 hz0 hz1 hz2 rfl (by decide) v2 (0 + A.length + 1) ([] ++ A.flatMap tmf ++ [.string k, .int .i64 (a : Int)]) (by rfl) HO4.out tmf_len D (highAd (some ⟨b, off, none⟩) cap1 A.length) (cap1 - A.length) (by rfl) HRows.out.2.2 (HRows.out.2.1.gr HG4.out) (tmf_flat_one D) (by have := HLen.out; unfold maxLen; omega) (by have := HLen.out; omega) HG4.out.size ?_
                intro v3 W5 ho5 hg5
                have HG5 : Hid (Gr w1 W5) := HG4.out.grown hg5 (fun j hj => (HO4.out.lt j hj).1)
                have HO5 : Hid (W5.ownsRow w1.heap.size 61 2 v3 (A ++ (k, a) :: D).length ((A ++ (k, a) :: D).flatMap tmf)) := by
                  show W5.ownsRow _ _ _ _ _ _
                  have e1 : (A ++ (k, a) :: D).length = 0 + A.length + 1 + D.length := by simp; omega
                  have e2 : (A ++ (k, a) :: D).flatMap tmf = [] ++ A.flatMap tmf ++ [.string k, .int .i64 (a : Int)] ++ D.flatMap tmf := by simp [List.flatMap_append, tmf]
                  rw [e1, e2]; exact ho5
                clear ho5 hg5
                refine hK.out (Act.put _ (some 112) v3) _ (HG5.out.keep hd1) (fun hHeld => ?_)
                clear hK K
                simp only [Act.put, List.setIfInBounds_toArray, List.set_cons_zero, List.set_cons_succ]
                refine takeW 21 113 (v := ?_) rfl rfl (by decide) (by kernel_rfl) (by kernel_rfl) (by kernel_rfl) (fun _ _ _ h => h) (by rfl) ?_ (fun _ => hHeld) ?_
                rotate_left
                · (intro w; (try intro hSw); (try dsimp only at hSw); go_simp; try with_reducible rfl)
                simp only [Act.put, List.setIfInBounds_toArray, List.set_cons_zero, List.set_cons_succ]
                refine takeW 22 114 (v := ?_) rfl rfl (by decide) (by kernel_rfl) (by kernel_rfl) (by kernel_rfl) (fun _ _ _ h => h) (by rfl) ?_ (fun _ => hHeld) ?_
                rotate_left
                · (intro w; (try intro hSw); (try dsimp only at hSw); go_simp; try with_reducible rfl)
                simp only [Act.put, List.setIfInBounds_toArray, List.set_cons_zero, List.set_cons_succ]
                clear hHeld
                obtain ⟨p1, q1, hv3⟩ := own_slice HO5.out
                rw [hv3] at HO5 ⊢
                have HF := Lib.hid (HR1.out.trans (HH.out.laid HG5.out HO5.out))
                have c5 := HG5.out.keep hd1
                have f5 := (HH.out.gr HG5.out).f1
                have l5 := (HH.out.gr HG5.out).lt
                generalize (A ++ (k, a) :: D).length = nn at *
                refine stepS (by kernel_rfl) rfl (by kernel_rfl) (fun K hK => ?_)
                go_simp
                refine hK.out _ _ ?_
                clear hK K
                refine doneL (by kernel_rfl) ?_ _
                go_wp2
                go_ret
                exact ⟨rfl, by rw [HIn.out]; exact HF.out⟩
            · skip
              go_simp
              have HG1 : Hid (Gr w1 (V.alloc (.cells #[.string k, .int .i64 (a : Int)] 61))) := HGV.out.alloc
              have HC : Hid (∀ j u, [Value.string k, .int .i64 (a : Int)][j]? = some u → World.cell? (V.alloc (.cells #[.string k, .int .i64 (a : Int)] 61)) ((⟨V.heap.size, 0, none⟩ : Addr).add j) = some u) := cells_two rfl
              have HsV : Hid (∀ g, g = World.size0 (V.alloc (.cells #[.string k, .int .i64 (a : Int)] 61)) → V.heap.size < g) := fun g hg => by rw [hg]; simp [World.size0]
              obtain ⟨W1, hW1⟩ : ∃ x, x = V.alloc (.cells #[.string k, .int .i64 (a : Int)] 61) := ⟨_, rfl⟩
              rw [← hW1] at HG1 HC HsV ⊢
              clear hW1
              refine hK.out _ _ (HG1.out.keep hd1) ?_
              clear hK K
              refine stepC 1 (by kernel_rfl) rfl (fun K hK => ?_)
              go_simp
              have HO2 : Hid (World.ownsRow (W1.alloc (.cells #[] 61)) w1.heap.size 61 2 (.slice (some ⟨W1.heap.size, 0, none⟩) 0 0) 0 []) := own_lit0 W1 w1.heap.size 61 _ rfl HG1.out.size
              have HG2 : Hid (Gr w1 (W1.alloc (.cells #[] 61))) := HG1.out.alloc
              have HC2 : Hid (∀ j u, [Value.string k, .int .i64 (a : Int)][j]? = some u → World.cell? (W1.alloc (.cells #[] 61)) ((⟨V.heap.size, 0, none⟩ : Addr).add j) = some u) := fun j u hj => (Gr.refl _).alloc.keep (HC.out j u hj)
              obtain ⟨W2, hW2⟩ : ∃ x, x = W1.alloc (.cells #[] 61) := ⟨_, rfl⟩
              rw [← hW2] at HO2 HG2 HC2 ⊢
              clear hW2 HC
              refine hK.out _ _ (HG2.out.keep hd1) (fun _ => ?_)
              clear hK K
              refine stepC 8 (by kernel_rfl) rfl (fun K hK => ?_)
              refine step_append_row (by rfl) _ _ 36 (by rfl) w1.heap.size 61 i0 (.agg #[.string ⟨#[]⟩, .int .i64 0]) 2 24 Tryd.underlying36 hi0 hz0 hz1 hz2 rfl (by decide) _ 0 [] (by rfl) HO2.out tmf_len A (some ⟨b, off, none⟩) cap1 (by rfl) HNil.out (HRows.out.1.gr HG2.out) (tmf_flat_one A) (by have := HLen.out; unfold maxLen; omega) (by have := HLen.out; omega) HG2.out.size ?_
              intro v1 W3 ho3 hg3
              have HO3 := Lib.hid ho3
              have HG3 : Hid (Gr w1 W3) := HG2.out.grown hg3 (fun j hj => (HO2.out.lt j hj).1)
              have HC3 : Hid (∀ j u, [Value.string k, .int .i64 (a : Int)][j]? = some u → World.cell? W3 ((⟨V.heap.size, 0, none⟩ : Addr).add j) = some u) := fun j u hj => hg3.cell (HC2.out j u hj) (fun e => by rw [Addr.add_lit] at e; injection e with e; simp only at e; have := HsV.out _ rfl; unfold World.size0 at this; omega)
              clear ho3 hg3 HC2
              refine hK.out (Act.put _ (some 100) v1) _ (HG3.out.keep hd1) (fun _ => ?_)
              clear hK K
              simp only [Act.put, List.setIfInBounds_toArray, List.set_cons_zero, List.set_cons_succ]
              clear hHeld
              refine stepC 13 (by kernel_rfl) rfl (fun K hK => ?_)
              refine step_append_at (by rfl) _ _ 36 (by rfl) w1.heap.size 61 i0 (.agg #[.string ⟨#[]⟩, .int .i64 0]) 2 24 Tryd.underlying36 hi0 hz0 hz1 hz2 rfl (by decide) v1 (0 + A.length) ([] ++ A.flatMap tmf) (by rfl) HO3.out ⟨V.heap.size, 0, none⟩ 1 1 [.string k, .int .i64 (a : Int)] (by rfl) rfl HC3.out (by intro u hu; simp at hu; rcases hu with rfl | rfl <;> rfl) (by have := HLen.out; unfold maxLen; omega) (by have := HLen.out; omega) HG3.out.size ?_
              intro v2 W4 ho4 hg4 hat4
              have HO4 := Lib.hid ho4
              have HG4 : Hid (Gr w1 W4) := HG3.out.grown hg4 (fun j hj => (HO3.out.lt j hj).1)
              clear ho4 hg4 hat4
              refine hK.out (Act.put _ (some 105) v2) _ (HG4.out.keep hd1) (fun _ => ?_)
              clear hK K
              simp only [Act.put, List.setIfInBounds_toArray, List.set_cons_zero, List.set_cons_succ]
              refine stepC 20 (by kernel_rfl) rfl (fun K hK => ?_)
              refine step_append_row (by rfl) _ _ 36 (by rfl) w1.heap.size 61 i0 (.agg #[.string ⟨#[]⟩, .int .i64 0]) 2 24 Tryd.underlying36 hi0 hz0 hz1 hz2 rfl (by decide) v2 (0 + A.length + 1) ([] ++ A.flatMap tmf ++ [.string k, .int .i64 (a : Int)]) (by rfl) HO4.out tmf_len D (highAd (some ⟨b, off, none⟩) cap1 A.length) (cap1 - A.length) (by rfl) HRows.out.2.2 (HRows.out.2.1.gr HG4.out) (tmf_flat_one D) (by have := HLen.out; unfold maxLen; omega) (by have := HLen.out; omega) HG4.out.size ?_
              intro v3 W5 ho5 hg5
              have HG5 : Hid (Gr w1 W5) := HG4.out.grown hg5 (fun j hj => (HO4.out.lt j hj).1)
              have HO5 : Hid (W5.ownsRow w1.heap.size 61 2 v3 (A ++ (k, a) :: D).length ((A ++ (k, a) :: D).flatMap tmf)) := by
                show W5.ownsRow _ _ _ _ _ _
                have e1 : (A ++ (k, a) :: D).length = 0 + A.length + 1 + D.length := by simp; omega
                have e2 : (A ++ (k, a) :: D).flatMap tmf = [] ++ A.flatMap tmf ++ [.string k, .int .i64 (a : Int)] ++ D.flatMap tmf := by simp [List.flatMap_append, tmf]
                rw [e1, e2]; exact ho5
              clear ho5 hg5
              refine hK.out (Act.put _ (some 112) v3) _ (HG5.out.keep hd1) (fun hHeld => ?_)
              clear hK K
              simp only [Act.put, List.setIfInBounds_toArray, List.set_cons_zero, List.set_cons_succ]
              refine takeW 21 113 (v := ?_) rfl rfl (by decide) (by kernel_rfl) (by kernel_rfl) (by kernel_rfl) (fun _ _ _ h => h) (by rfl) ?_ (fun _ => hHeld) ?_
              rotate_left
              · (intro w; (try intro hSw); (try dsimp only at hSw); go_simp; try with_reducible rfl)
              simp only [Act.put, List.setIfInBounds_toArray, List.set_cons_zero, List.set_cons_succ]
              refine takeW 22 114 (v := ?_) rfl rfl (by decide) (by kernel_rfl) (by kernel_rfl) (by kernel_rfl) (fun _ _ _ h => h) (by rfl) ?_ (fun _ => hHeld) ?_
              rotate_left
              · (intro w; (try intro hSw); (try dsimp only at hSw); go_simp; try with_reducible rfl)
              simp only [Act.put, List.setIfInBounds_toArray, List.set_cons_zero, List.set_cons_succ]
              clear hHeld
              obtain ⟨p1, q1, hv3⟩ := own_slice HO5.out
              rw [hv3] at HO5 ⊢
              have HF := Lib.hid (HR1.out.trans (HH.out.laid HG5.out HO5.out))
              have c5 := HG5.out.keep hd1
              have f5 := (HH.out.gr HG5.out).f1
              have l5 := (HH.out.gr HG5.out).lt
              generalize (A ++ (k, a) :: D).length = nn at *
              refine stepS (by kernel_rfl) rfl (by kernel_rfl) (fun K hK => ?_)
              go_simp
              refine hK.out _ _ ?_
              clear hK K
              refine doneL (by kernel_rfl) ?_ _
              go_wp2
              go_ret
              exact ⟨rfl, by rw [HIn.out]; exact HF.out⟩
  · subst hhk
    go_enter Tryd.func13, Tryd.ntmps13
    go_wp2_with (first
      | (go_at_call 22; refine HA.out.mono ?_; rintro e w' ⟨rfl, hw⟩; obtain rfl := hw.symm; clear hw)
      | (go_at_call 15; refine HD.out.mono ?_; rintro e w1 ⟨rfl, hr1⟩))
    have HR1 : Hid (RfR w w1 r t M none) := hr1
    obtain ⟨ad1, cap1, h1, _, _⟩ := hr1
    have HH : Hid (RfAt w1 r t ad1 cap1 M) := h1
    have HIn : Hid (ins M (k, a) = M.takeWhile (fun y => tlt y (k, a)) ++ (k, a) :: M.dropWhile (fun y => tlt y (k, a))) := rfl
    have HAD : Hid (M.takeWhile (fun y => tlt y (k, a)) ++ M.dropWhile (fun y => tlt y (k, a)) = M) := List.takeWhile_append_dropWhile
    have HJ : Hid (∀ j (h2 : j < M.length), j < (M.takeWhile (fun y => tlt y (k, a))).length → tlt M[j] (k, a) = true) := fun j h2 hj => tw_lt hj h2
    have HJ2 : Hid (∀ (h2 : (M.takeWhile (fun y => tlt y (k, a))).length < M.length), tlt M[(M.takeWhile (fun y => tlt y (k, a))).length] (k, a) = false) := fun h2 => tw_at h2
    generalize M.takeWhile (fun y => tlt y (k, a)) = A at *
    generalize M.dropWhile (fun y => tlt y (k, a)) = D at *
    have hAD : A.length + D.length = M.length := by rw [← HAD.out, List.length_append]
    have hle := h1.le
    have hcp := h1.cp
    have h63 : M.length ≤ 9223372036854775807 := by omega
    have hM2 : M.length ≤ 200 := HfD.out
    have HLen : Hid (A.length + D.length ≤ 200) := by show _ ≤ _; omega
    have hS1 := slice_low ad1 M.length cap1 A.length (by omega) hle
    have hS2 : ∀ W, (Instr.sliceAt 36 (.slice ad1 M.length cap1) (some (.int .i64 A.length)) none none).run Tryd.prog W = .ok (.slice (highAd ad1 cap1 A.length) D.length (cap1 - A.length)) W := fun W => by
      rw [slice_high ad1 M.length cap1 A.length (by omega) W, show M.length - A.length = D.length by omega]
    have HRows : Hid (RowAt tmf w1 ad1 A ∧ RowAt tmf w1 (highAd ad1 cap1 A.length) D ∧ (highAd ad1 cap1 A.length = none → cap1 - A.length = 0)) := by
      have e1 : M.take A.length = A := by rw [← HAD.out]; simp
      have e2 : M.drop A.length = D := by rw [← HAD.out]; simp
      have r1 := row_take tmf_len h1.row A.length (by omega)
      have r2 := row_high h1.row cap1 A.length hle
      rw [e1] at r1
      rw [e2] at r2
      refine ⟨r1, r2, ?_⟩
      have hnil := h1.nil
      unfold highAd
      split
      · intro e; rw [hnil e]; omega
      · cases ad1 with
        | none => intro _; rw [hnil rfl]; omega
        | some a => intro e; cases e
    have HNil : Hid (ad1 = none → cap1 = 0) := h1.nil
    have hd1 := h1.lst
    clear h1 HA HD hc hc1 hle
    go_wp2
    go_loop [9] (fun i => ∃ (j : Nat), j ≤ A.length ∧ i = .int .i64 (j : Int)) (fun i => M.length - (intOf i).toNat)
    case atStart => exact ⟨0, Nat.zero_le _, rfl⟩
    case round =>
      obtain ⟨j, hj, rfl⟩ := hrel
      by_cases hja : j < A.length
      · have hlt : j < M.length := by omega
        obtain ⟨b, off, hadq, hb, d0, d1⟩ := tm_at HH.out.row j hlt
        have hd := HJ.out j hlt hja
        subst hadq
        obtain ⟨y1, y2, ey⟩ : ∃ y1 y2, M[j] = (y1, y2) := ⟨M[j].1, M[j].2, rfl⟩
        rw [ey] at hd d0 d1
        simp only at d0 d1
        clear hS1 hS2 hAD ey
        simp only [tlt, Bool.or_eq_true, Bool.and_eq_true, decide_eq_true_eq] at hd
        by_cases hlt2 : y2 < a
        · have hl2 : (y2 : Int) < (a : Int) := by omega
          clear hd hlt2
          go_wp2
          go_round
          case rel => exact ⟨j + 1, by omega, by simp⟩
          case measure => simp [intOf]; omega
        · obtain ⟨e2, hl⟩ : y2 = a ∧ Wh.lt y1 k = true := hd.resolve_left hlt2
          subst e2
          have hl' : Op.bytesLess y1.toList k.toList = true := hl
          clear hd hlt2 hl
          go_wp2
          go_round
          case rel => exact ⟨j + 1, by omega, by simp⟩
          case measure => simp [intOf]; omega
      · obtain rfl : j = A.length := by omega
        have hcond : M.length ≤ A.length ∨ ∃ b off y1 y2, ad1 = some ⟨b, off, none⟩ ∧ A.length < M.length ∧ w1.cell? ⟨b, off + A.length * 2, none⟩ = some (.string y1) ∧ w1.cell? ⟨b, off + A.length * 2 + 1, none⟩ = some (.int .i64 ((y2 : Nat) : Int)) ∧ tlt (y1, y2) (k, a) = false := by
          by_cases hlt : A.length < M.length
          · obtain ⟨b, off, hadq, hb, d0, d1⟩ := tm_at HH.out.row A.length hlt
            exact Or.inr ⟨b, off, M[A.length].1, M[A.length].2, hadq, hlt, d0, d1, HJ2.out hlt⟩
          · exact Or.inl (by omega)
        have HGV : Hid (Gr w1 w1.drew) := (Gr.refl w1).drew
        have hdr : w1.drew.cell? ⟨r, 1, none⟩ = some (.slice ad1 M.length cap1) := HGV.out.keep hd1
        rcases hcond with hge | ⟨b, off, y1, y2, hadq, hltA, d0, d1, hno⟩
        · have hgi : ¬ (A.length : Int) < (M.length : Int) := by omega
          clear hge hAD HJ HJ2
          go_upto_region 12 with fail
          refine beginL 23 (fun w' => w'.cell? ⟨r, 1, none⟩ = some (.slice ad1 M.length cap1)) (by kernel_rfl) (by exact hdr) (fun hHeld => ?_)
          refine takeW 0 92 (v := ?_) rfl rfl (by decide) (by kernel_rfl) (by kernel_rfl) (by kernel_rfl) (fun _ _ _ h => h) (by rfl) ?_ (fun _ => hHeld) ?_
          rotate_left
          · (intro w; (try intro hSw); (try dsimp only at hSw); go_simp; try with_reducible rfl)
          simp only [Act.put, List.setIfInBounds_toArray, List.set_cons_zero, List.set_cons_succ]
          refine takeW 2 94 (v := ?_) rfl rfl (by decide) (by kernel_rfl) (by kernel_rfl) (by kernel_rfl) (fun _ _ _ h => h) (by rfl) ?_ (fun _ => hHeld) ?_
          rotate_left
          · (intro w; (try intro hSw); (try dsimp only at hSw); go_simp; try with_reducible rfl)
          simp only [Act.put, List.setIfInBounds_toArray, List.set_cons_zero, List.set_cons_succ]
          refine takeW 3 95 (v := ?_) rfl rfl (by decide) (by kernel_rfl) (by kernel_rfl) (by kernel_rfl) (fun _ _ _ h => h) (by rfl) ?_ (fun _ => hHeld) ?_
          rotate_left
          · (intro w; (try intro hSw); (try dsimp only at hSw); go_simp; try with_reducible rfl)
          simp only [Act.put, List.setIfInBounds_toArray, List.set_cons_zero, List.set_cons_succ]
          refine takeW 4 96 (v := ?_) rfl rfl (by decide) (by kernel_rfl) (by kernel_rfl) (by kernel_rfl) (fun _ _ _ h => h) (by rfl) ?_ (fun _ => hHeld) ?_
          rotate_left
          · (intro w; (try intro hSw); (try dsimp only at hSw); go_simp; try with_reducible rfl)
          simp only [Act.put, List.setIfInBounds_toArray, List.set_cons_zero, List.set_cons_succ]
          refine takeS 5 97 (v := ?_) rfl rfl (by decide) (by kernel_rfl) (by kernel_rfl) (by kernel_rfl) (by kernel_rfl) (by kernel_rfl) (fun _ _ _ h => h) (by rfl) ?_ hHeld ?_
          rotate_left
          · (intro w; (try intro hSw); (try dsimp only at hSw); go_simp; try with_reducible rfl)
          simp only [Act.put, List.setIfInBounds_toArray, List.set_cons_zero, List.set_cons_succ]
          refine takeW 6 98 (v := ?_) rfl rfl (by decide) (by kernel_rfl) (by kernel_rfl) (by kernel_rfl) (fun _ _ _ h => h) (by rfl) ?_ (fun _ => hHeld) ?_
          rotate_left
          · (intro w; (try intro hSw); (try dsimp only at hSw); go_simp; try with_reducible rfl)
          simp only [Act.put, List.setIfInBounds_toArray, List.set_cons_zero, List.set_cons_succ]
          refine takeW 7 99 (v := ?_) rfl rfl (by decide) (by kernel_rfl) (by kernel_rfl) (by kernel_rfl) (fun _ _ _ h => h) (by rfl) ?_ (fun _ => hHeld) ?_
          rotate_left
          · (intro w; (try intro hSw); (try dsimp only at hSw); go_simp; try with_reducible rfl)
          simp only [Act.put, List.setIfInBounds_toArray, List.set_cons_zero, List.set_cons_succ]
          refine takeW 9 101 (v := ?_) rfl rfl (by decide) (by kernel_rfl) (by kernel_rfl) (by kernel_rfl) (fun _ _ _ h => h) (by rfl) ?_ (fun _ => hHeld) ?_
          rotate_left
          · (intro w; (try intro hSw); (try dsimp only at hSw); go_simp; try with_reducible rfl)
          simp only [Act.put, List.setIfInBounds_toArray, List.set_cons_zero, List.set_cons_succ]
          refine takeW 10 102 (v := ?_) rfl rfl (by decide) (by kernel_rfl) (by kernel_rfl) (by kernel_rfl) (fun _ _ _ h => h) (by rfl) ?_ (fun _ => hHeld) ?_
          rotate_left
          · (intro w; (try intro hSw); (try dsimp only at hSw); go_simp; try with_reducible rfl)
          simp only [Act.put, List.setIfInBounds_toArray, List.set_cons_zero, List.set_cons_succ]
          refine takeW 11 103 (v := ?_) rfl rfl (by decide) (by kernel_rfl) (by kernel_rfl) (by kernel_rfl) (fun _ _ _ h => h) (by rfl) ?_ (fun _ => hHeld) ?_
          rotate_left
          · (intro w; (try intro hSw); (try dsimp only at hSw); go_simp; try with_reducible rfl)
          simp only [Act.put, List.setIfInBounds_toArray, List.set_cons_zero, List.set_cons_succ]
          refine takeW 14 106 (v := ?_) rfl rfl (by decide) (by kernel_rfl) (by kernel_rfl) (by kernel_rfl) (fun _ _ _ h => h) (by rfl) ?_ (fun _ => hHeld) ?_
          rotate_left
          · (intro w; (try intro hSw); (try dsimp only at hSw); go_simp; try with_reducible rfl)
          simp only [Act.put, List.setIfInBounds_toArray, List.set_cons_zero, List.set_cons_succ]
          refine takeW 15 107 (v := ?_) rfl rfl (by decide) (by kernel_rfl) (by kernel_rfl) (by kernel_rfl) (fun _ _ _ h => h) (by rfl) ?_ (fun _ => hHeld) ?_
          rotate_left
          · (intro w; (try intro hSw); (try dsimp only at hSw); go_simp; try with_reducible rfl)
          simp only [Act.put, List.setIfInBounds_toArray, List.set_cons_zero, List.set_cons_succ]
          refine takeW 16 108 (v := ?_) rfl rfl (by decide) (by kernel_rfl) (by kernel_rfl) (by kernel_rfl) (fun _ _ _ h => h) (by rfl) ?_ (fun _ => hHeld) ?_
          rotate_left
          · (intro w; (try intro hSw); (try dsimp only at hSw); go_simp; try with_reducible rfl)
          simp only [Act.put, List.setIfInBounds_toArray, List.set_cons_zero, List.set_cons_succ]
          refine takeS 17 109 (v := ?_) rfl rfl (by decide) (by kernel_rfl) (by kernel_rfl) (by kernel_rfl) (by kernel_rfl) (by kernel_rfl) (fun _ _ _ h => h) (by rfl) ?_ hHeld ?_
          rotate_left
          · (intro w; (try intro hSw); (try dsimp only at hSw); go_simp; try with_reducible rfl)
          simp only [Act.put, List.setIfInBounds_toArray, List.set_cons_zero, List.set_cons_succ]
          refine takeW 18 110 (v := ?_) rfl rfl (by decide) (by kernel_rfl) (by kernel_rfl) (by kernel_rfl) (fun _ _ _ h => h) (by rfl) ?_ (fun _ => hHeld) ?_
          rotate_left
          · (intro w; (try intro hSw); (try dsimp only at hSw); go_simp; try with_reducible rfl)
          simp only [Act.put, List.setIfInBounds_toArray, List.set_cons_zero, List.set_cons_succ]
          refine takeW 19 111 (v := ?_) rfl rfl (by decide) (by kernel_rfl) (by kernel_rfl) (by kernel_rfl) (fun _ _ _ h => h) (by rfl) ?_ (fun _ => hHeld) ?_
          rotate_left
          · (intro w; (try intro hSw); (try dsimp only at hSw); go_simp; try with_reducible rfl)
          simp only [Act.put, List.setIfInBounds_toArray, List.set_cons_zero, List.set_cons_succ]
          obtain ⟨V, hV⟩ : ∃ V, V = w1.drew := ⟨_, rfl⟩
          rw [← hV] at HGV ⊢
          clear hV hdr
          refine stepC2 1 12 (by kernel_rfl) rfl rfl (fun K hK => ?_) (fun K hK => ?_)
          · skip
            go_simp
            have HO1 : Hid (World.ownsRow (V.alloc (.cells #[] 61)) w1.heap.size 61 2 (.slice (some ⟨V.heap.size, 0, none⟩) 0 0) 0 []) := own_lit0 V w1.heap.size 61 _ rfl HGV.out.size
            have HG1 : Hid (Gr w1 (V.alloc (.cells #[] 61))) := HGV.out.alloc
            have HsV : Hid (∀ g, g = World.size0 (V.alloc (.cells #[] 61)) → V.heap.size < g) := fun g hg => by rw [hg]; simp [World.size0]
            obtain ⟨W1, hW1⟩ : ∃ x, x = V.alloc (.cells #[] 61) := ⟨_, rfl⟩
            rw [← hW1] at HO1 HG1 HsV ⊢
            clear hW1
            refine hK.out _ _ (HG1.out.keep hd1) ?_
            clear hK K
            refine stepC2 8 12 (by kernel_rfl) rfl rfl (fun K hK => ?_) (fun K hK => ?_)
            · skip
              refine step_append_row (by rfl) _ _ 36 (by rfl) w1.heap.size 61 i0 (.agg #[.string ⟨#[]⟩, .int .i64 0]) 2 24 Tryd.underlying36 hi0 hz0 hz1 hz2 rfl (by decide) _ 0 [] (by rfl) HO1.out tmf_len A ad1 cap1 (by rfl) HNil.out (HRows.out.1.gr HG1.out) (tmf_flat_one A) (by have := HLen.out; unfold maxLen; omega) (by have := HLen.out; omega) HG1.out.size ?_
              intro v1 W2 ho2 hg2
              have HO2 := Lib.hid ho2
              have HG2 : Hid (Gr w1 W2) := HG1.out.grown hg2 (fun j hj => (HO1.out.lt j hj).1)
              clear ho2 hg2
              refine hK.out (Act.put _ (some 100) v1) _ (HG2.out.keep hd1) ?_
              clear hK K
              simp only [Act.put, List.setIfInBounds_toArray, List.set_cons_zero, List.set_cons_succ]
              refine stepC 12 (by kernel_rfl) rfl (fun K hK => ?_)
              go_simp
              have HO3 := Lib.hid (HO2.out.alloc (.cells #[.string k, .int .i64 (a : Int)] 61))
              have HG3 : Hid (Gr w1 (W2.alloc (.cells #[.string k, .int .i64 (a : Int)] 61))) := HG2.out.alloc
              have HC : Hid (∀ j u, [Value.string k, .int .i64 (a : Int)][j]? = some u → World.cell? (W2.alloc (.cells #[.string k, .int .i64 (a : Int)] 61)) ((⟨W2.heap.size, 0, none⟩ : Addr).add j) = some u) := cells_two rfl
              obtain ⟨W3, hW3⟩ : ∃ x, x = W2.alloc (.cells #[.string k, .int .i64 (a : Int)] 61) := ⟨_, rfl⟩
              rw [← hW3] at HO3 HG3 HC ⊢
              clear hW3
              refine hK.out _ _ (HG3.out.keep hd1) (fun _ => ?_)
              clear hK K
              clear hHeld
              refine stepC 13 (by kernel_rfl) rfl (fun K hK => ?_)
              refine step_append_at (by rfl) _ _ 36 (by rfl) w1.heap.size 61 i0 (.agg #[.string ⟨#[]⟩, .int .i64 0]) 2 24 Tryd.underlying36 hi0 hz0 hz1 hz2 rfl (by decide) v1 (0 + A.length) ([] ++ A.flatMap tmf) (by rfl) HO3.out ⟨W2.heap.size, 0, none⟩ 1 1 [.string k, .int .i64 (a : Int)] (by rfl) rfl HC.out (by intro u hu; simp at hu; rcases hu with rfl | rfl <;> rfl) (by have := HLen.out; unfold maxLen; omega) (by have := HLen.out; omega) HG3.out.size ?_
              intro v2 W4 ho4 hg4 hat4
              have HO4 := Lib.hid ho4
              have HG4 : Hid (Gr w1 W4) := HG3.out.grown hg4 (fun j hj => (HO3.out.lt j hj).1)
              clear ho4 hg4 hat4
              refine hK.out (Act.put _ (some 105) v2) _ (HG4.out.keep hd1) (fun _ => ?_)
              clear hK K
              simp only [Act.put, List.setIfInBounds_toArray, List.set_cons_zero, List.set_cons_succ]
              refine stepC 20 (by kernel_rfl) rfl (fun K hK => ?_)
              refine step_append_row (by rfl) _ _ 36 (by rfl) w1.heap.size 61 i0 (.agg #[.string ⟨#[]⟩, .int .i64 0]) 2 24 Tryd.underlying36 hi0 hz0 hz1 hz2 rfl (by decide) v2 (0 + A.length + 1) ([] ++ A.flatMap tmf ++ [.string k, .int .i64 (a : Int)]) (by rfl) HO4.out tmf_len D (highAd ad1 cap1 A.length) (cap1 - A.length) (by rfl) HRows.out.2.2 (HRows.out.2.1.gr HG4.out) (tmf_flat_one D) (by have := HLen.out; unfold maxLen; omega) (by have := HLen.out; omega) HG4.out.size ?_
              intro v3 W5 ho5 hg5
              have HG5 : Hid (Gr w1 W5) := HG4.out.grown hg5 (fun j hj => (HO4.out.lt j hj).1)
              have HO5 : Hid (W5.ownsRow w1.heap.size 61 2 v3 (A ++ (k, a) :: D).length ((A ++ (k, a) :: D).flatMap tmf)) := by
                show W5.ownsRow _ _ _ _ _ _
                have e1 : (A ++ (k, a) :: D).length = 0 + A.length + 1 + D.length := by simp; omega
                have e2 : (A ++ (k, a) :: D).flatMap tmf = [] ++ A.flatMap tmf ++ [.string k, .int .i64 (a : Int)] ++ D.flatMap tmf := by simp [List.flatMap_append, tmf]
                rw [e1, e2]; exact ho5
              clear ho5 hg5
              refine hK.out (Act.put _ (some 112) v3) _ (HG5.out.keep hd1) (fun hHeld => ?_)
              clear hK K
              simp only [Act.put, List.setIfInBounds_toArray, List.set_cons_zero, List.set_cons_succ]
              refine takeW 21 113 (v := ?_) rfl rfl (by decide) (by kernel_rfl) (by kernel_rfl) (by kernel_rfl) (fun _ _ _ h => h) (by rfl) ?_ (fun _ => hHeld) ?_
              rotate_left
              · (intro w; (try intro hSw); (try dsimp only at hSw); go_simp; try with_reducible rfl)
              simp only [Act.put, List.setIfInBounds_toArray, List.set_cons_zero, List.set_cons_succ]
              refine takeW 22 114 (v := ?_) rfl rfl (by decide) (by kernel_rfl) (by kernel_rfl) (by kernel_rfl) (fun _ _ _ h => h) (by rfl) ?_ (fun _ => hHeld) ?_
              rotate_left
              · (intro w; (try intro hSw); (try dsimp only at hSw); go_simp; try with_reducible rfl)
              simp only [Act.put, List.setIfInBounds_toArray, List.set_cons_zero, List.set_cons_succ]
              clear hHeld
              obtain ⟨p1, q1, hv3⟩ := own_slice HO5.out
              rw [hv3] at HO5 ⊢
              have HF := Lib.hid (HR1.out.trans (HH.out.laid HG5.out HO5.out))
              have c5 := HG5.out.keep hd1
              have f5 := (HH.out.gr HG5.out).f1
              have l5 := (HH.out.gr HG5.out).lt
              generalize (A ++ (k, a) :: D).length = nn at *
              refine stepS (by kernel_rfl) rfl (by kernel_rfl) (fun K hK => ?_)
              go_simp
              refine hK.out _ _ ?_
              clear hK K
              refine doneL (by kernel_rfl) ?_ _
              go_wp2
              go_ret
              exact ⟨rfl, by rw [HIn.out]; exact HF.out⟩
            · skip
              go_simp
              have HO2 := Lib.hid (HO1.out.alloc (.cells #[.string k, .int .i64 (a : Int)] 61))
              have HG2 : Hid (Gr w1 (W1.alloc (.cells #[.string k, .int .i64 (a : Int)] 61))) := HG1.out.alloc
              have HC : Hid (∀ j u, [Value.string k, .int .i64 (a : Int)][j]? = some u → World.cell? (W1.alloc (.cells #[.string k, .int .i64 (a : Int)] 61)) ((⟨W1.heap.size, 0, none⟩ : Addr).add j) = some u) := cells_two rfl
              obtain ⟨W2, hW2⟩ : ∃ x, x = W1.alloc (.cells #[.string k, .int .i64 (a : Int)] 61) := ⟨_, rfl⟩
              rw [← hW2] at HO2 HG2 HC ⊢
              clear hW2
              refine hK.out _ _ (HG2.out.keep hd1) ?_
              clear hK K
              refine stepC 8 (by kernel_rfl) rfl (fun K hK => ?_)
              refine step_append_row (by rfl) _ _ 36 (by rfl) w1.heap.size 61 i0 (.agg #[.string ⟨#[]⟩, .int .i64 0]) 2 24 Tryd.underlying36 hi0 hz0 hz1 hz2 rfl (by decide) _ 0 [] (by rfl) HO2.out tmf_len A ad1 cap1 (by rfl) HNil.out (HRows.out.1.gr HG2.out) (tmf_flat_one A) (by have := HLen.out; unfold maxLen; omega) (by have := HLen.out; omega) HG2.out.size ?_
              intro v1 W3 ho3 hg3
              have HO3 := Lib.hid ho3
              have HG3 : Hid (Gr w1 W3) := HG2.out.grown hg3 (fun j hj => (HO2.out.lt j hj).1)
              have HC3 : Hid (∀ j u, [Value.string k, .int .i64 (a : Int)][j]? = some u → World.cell? W3 ((⟨W1.heap.size, 0, none⟩ : Addr).add j) = some u) := fun j u hj => hg3.cell (HC.out j u hj) (fun e => by rw [Addr.add_lit] at e; injection e with e; simp only at e; have := HsV.out _ rfl; unfold World.size0 at this; omega)
              clear ho3 hg3 HC
              refine hK.out (Act.put _ (some 100) v1) _ (HG3.out.keep hd1) (fun _ => ?_)
              clear hK K
              simp only [Act.put, List.setIfInBounds_toArray, List.set_cons_zero, List.set_cons_succ]
              clear hHeld
              refine stepC 13 (by kernel_rfl) rfl (fun K hK => ?_)
              refine step_append_at (by rfl) _ _ 36 (by rfl) w1.heap.size 61 i0 (.agg #[.string ⟨#[]⟩, .int .i64 0]) 2 24 Tryd.underlying36 hi0 hz0 hz1 hz2 rfl (by decide) v1 (0 + A.length) ([] ++ A.flatMap tmf) (by rfl) HO3.out ⟨W1.heap.size, 0, none⟩ 1 1 [.string k, .int .i64 (a : Int)] (by rfl) rfl HC3.out (by intro u hu; simp at hu; rcases hu with rfl | rfl <;> rfl) (by have := HLen.out; unfold maxLen; omega) (by have := HLen.out; omega) HG3.out.size ?_
              intro v2 W4 ho4 hg4 hat4
              have HO4 := Lib.hid ho4
              have HG4 : Hid (Gr w1 W4) := HG3.out.grown hg4 (fun j hj => (HO3.out.lt j hj).1)
              clear ho4 hg4 hat4
              refine hK.out (Act.put _ (some 105) v2) _ (HG4.out.keep hd1) (fun _ => ?_)
              clear hK K
              simp only [Act.put, List.setIfInBounds_toArray, List.set_cons_zero, List.set_cons_succ]
              refine stepC 20 (by kernel_rfl) rfl (fun K hK => ?_)
              refine step_append_row (by rfl) _ _ 36 (by rfl) w1.heap.size 61 i0 (.agg #[.string ⟨#[]⟩, .int .i64 0]) 2 24 Tryd.underlying36 hi0 hz0 hz1 hz2 rfl (by decide) v2 (0 + A.length + 1) ([] ++ A.flatMap tmf ++ [.string k, .int .i64 (a : Int)]) (by rfl) HO4.out tmf_len D (highAd ad1 cap1 A.length) (cap1 - A.length) (by rfl) HRows.out.2.2 (HRows.out.2.1.gr HG4.out) (tmf_flat_one D) (by have := HLen.out; unfold maxLen; omega) (by have := HLen.out; omega) HG4.out.size ?_
              intro v3 W5 ho5 hg5
              have HG5 : Hid (Gr w1 W5) := HG4.out.grown hg5 (fun j hj => (HO4.out.lt j hj).1)
              have HO5 : Hid (W5.ownsRow w1.heap.size 61 2 v3 (A ++ (k, a) :: D).length ((A ++ (k, a) :: D).flatMap tmf)) := by
                show W5.ownsRow _ _ _ _ _ _
                have e1 : (A ++ (k, a) :: D).length = 0 + A.length + 1 + D.length := by simp; omega
                have e2 : (A ++ (k, a) :: D).flatMap tmf = [] ++ A.flatMap tmf ++ [.string k, .int .i64 (a : Int)] ++ D.flatMap tmf := by simp [List.flatMap_append, tmf]
                rw [e1, e2]; exact ho5
              clear ho5 hg5
              refine hK.out (Act.put _ (some 112) v3) _ (HG5.out.keep hd1) (fun hHeld => ?_)
              clear hK K
              simp only [Act.put, List.setIfInBounds_toArray, List.set_cons_zero, List.set_cons_succ]
              refine takeW 21 113 (v := ?_) rfl rfl (by decide) (by kernel_rfl) (by kernel_rfl) (by kernel_rfl) (fun _ _ _ h => h) (by rfl) ?_ (fun _ => hHeld) ?_
              rotate_left
              · (intro w; (try intro hSw); (try dsimp only at hSw); go_simp; try with_reducible rfl)
              simp only [Act.put, List.setIfInBounds_toArray, List.set_cons_zero, List.set_cons_succ]
              refine takeW 22 114 (v := ?_) rfl rfl (by decide) (by kernel_rfl) (by kernel_rfl) (by kernel_rfl) (fun _ _ _ h => h) (by rfl) ?_ (fun _ => hHeld) ?_
              rotate_left
              · (intro w; (try intro hSw); (try dsimp only at hSw); go_simp; try with_reducible rfl)
              simp only [Act.put, List.setIfInBounds_toArray, List.set_cons_zero, List.set_cons_succ]
              clear hHeld
              obtain ⟨p1, q1, hv3⟩ := own_slice HO5.out
              rw [hv3] at HO5 ⊢
              have HF := Lib.hid (HR1.out.trans (HH.out.laid HG5.out HO5.out))
              have c5 := HG5.out.keep hd1
              have f5 := (HH.out.gr HG5.out).f1
              have l5 := (HH.out.gr HG5.out).lt
              generalize (A ++ (k, a) :: D).length = nn at *
              refine stepS (by kernel_rfl) rfl (by kernel_rfl) (fun K hK => ?_)
              go_simp
              refine hK.out _ _ ?_
              clear hK K
              refine doneL (by kernel_rfl) ?_ _
              go_wp2
              go_ret
              exact ⟨rfl, by rw [HIn.out]; exact HF.out⟩
          · skip
            go_simp
            have HG1 : Hid (Gr w1 (V.alloc (.cells #[.string k, .int .i64 (a : Int)] 61))) := HGV.out.alloc
            have HC : Hid (∀ j u, [Value.string k, .int .i64 (a : Int)][j]? = some u → World.cell? (V.alloc (.cells #[.string k, .int .i64 (a : Int)] 61)) ((⟨V.heap.size, 0, none⟩ : Addr).add j) = some u) := cells_two rfl
            have HsV : Hid (∀ g, g = World.size0 (V.alloc (.cells #[.string k, .int .i64 (a : Int)] 61)) → V.heap.size < g) := fun g hg => by rw [hg]; simp [World.size0]
            obtain ⟨W1, hW1⟩ : ∃ x, x = V.alloc (.cells #[.string k, .int .i64 (a : Int)] 61) := ⟨_, rfl⟩
            rw [← hW1] at HG1 HC HsV ⊢
            clear hW1
            refine hK.out _ _ (HG1.out.keep hd1) ?_
            clear hK K
            refine stepC 1 (by kernel_rfl) rfl (fun K hK => ?_)
            go_simp
            have HO2 : Hid (World.ownsRow (W1.alloc (.cells #[] 61)) w1.heap.size 61 2 (.slice (some ⟨W1.heap.size, 0, none⟩) 0 0) 0 []) := own_lit0 W1 w1.heap.size 61 _ rfl HG1.out.size
            have HG2 : Hid (Gr w1 (W1.alloc (.cells #[] 61))) := HG1.out.alloc
            have HC2 : Hid (∀ j u, [Value.string k, .int .i64 (a : Int)][j]? = some u → World.cell? (W1.alloc (.cells #[] 61)) ((⟨V.heap.size, 0, none⟩ : Addr).add j) = some u) := fun j u hj => (Gr.refl _).alloc.keep (HC.out j u hj)
            obtain ⟨W2, hW2⟩ : ∃ x, x = W1.alloc (.cells #[] 61) := ⟨_, rfl⟩
            rw [← hW2] at HO2 HG2 HC2 ⊢
            clear hW2 HC
            refine hK.out _ _ (HG2.out.keep hd1) (fun _ => ?_)
            clear hK K
            refine stepC 8 (by kernel_rfl) rfl (fun K hK => ?_)
            refine step_append_row (by rfl) _ _ 36 (by rfl) w1.heap.size 61 i0 (.agg #[.string ⟨#[]⟩, .int .i64 0]) 2 24 Tryd.underlying36 hi0 hz0 hz1 hz2 rfl (by decide) _ 0 [] (by rfl) HO2.out tmf_len A ad1 cap1 (by rfl) HNil.out (HRows.out.1.gr HG2.out) (tmf_flat_one A) (by have := HLen.out; unfold maxLen; omega) (by have := HLen.out; omega) HG2.out.size ?_
            intro v1 W3 ho3 hg3
            have HO3 := Lib.hid ho3
            have HG3 : Hid (Gr w1 W3) := HG2.out.grown hg3 (fun j hj => (HO2.out.lt j hj).1)
            have HC3 : Hid (∀ j u, [Value.string k, .int .i64 (a : Int)][j]? = some u → World.cell? W3 ((⟨V.heap.size, 0, none⟩ : Addr).add j) = some u) := fun j u hj => hg3.cell (HC2.out j u hj) (fun e => by rw [Addr.add_lit] at e; injection e with e; simp only at e; have := HsV.out _ rfl; unfold World.size0 at this; omega)
            clear ho3 hg3 HC2
            refine hK.out (Act.put _ (some 100) v1) _ (HG3.out.keep hd1) (fun _ => ?_)
            clear hK K
            simp only [Act.put, List.setIfInBounds_toArray, List.set_cons_zero, List.set_cons_succ]
            clear hHeld
            refine stepC 13 (by kernel_rfl) rfl (fun K hK => ?_)
            refine step_append_at (by rfl) _ _ 36 (by rfl) w1.heap.size 61 i0 (.agg #[.string ⟨#[]⟩, .int .i64 0]) 2 24 Tryd.underlying36 hi0 hz0 hz1 hz2 rfl (by decide) v1 (0 + A.length) ([] ++ A.flatMap tmf) (by rfl) HO3.out ⟨V.heap.size, 0, none⟩ 1 1 [.string k, .int .i64 (a : Int)] (by rfl) rfl HC3.out (by intro u hu; simp at hu; rcases hu with rfl | rfl <;> rfl) (by have := HLen.out; unfold maxLen; omega) (by have := HLen.out; omega) HG3.out.size ?_
            intro v2 W4 ho4 hg4 hat4
            have HO4 := Lib.hid ho4
            have HG4 : Hid (Gr w1 W4) := HG3.out.grown hg4 (fun j hj => (HO3.out.lt j hj).1)
            clear ho4 hg4 hat4
            refine hK.out (Act.put _ (some 105) v2) _ (HG4.out.keep hd1) (fun _ => ?_)
            clear hK K
            simp only [Act.put, List.setIfInBounds_toArray, List.set_cons_zero, List.set_cons_succ]
            refine stepC 20 (by kernel_rfl) rfl (fun K hK => ?_)
            refine step_append_row (by rfl) _ _ 36 (by rfl) w1.heap.size 61 i0 (.agg #[.string ⟨#[]⟩, .int .i64 0]) 2 24 Tryd.underlying36 hi0 hz0 hz1 hz2 rfl (by decide) v2 (0 + A.length + 1) ([] ++ A.flatMap tmf ++ [.string k, .int .i64 (a : Int)]) (by rfl) HO4.out tmf_len D (highAd ad1 cap1 A.length) (cap1 - A.length) (by rfl) HRows.out.2.2 (HRows.out.2.1.gr HG4.out) (tmf_flat_one D) (by have := HLen.out; unfold maxLen; omega) (by have := HLen.out; omega) HG4.out.size ?_
            intro v3 W5 ho5 hg5
            have HG5 : Hid (Gr w1 W5) := HG4.out.grown hg5 (fun j hj => (HO4.out.lt j hj).1)
            have HO5 : Hid (W5.ownsRow w1.heap.size 61 2 v3 (A ++ (k, a) :: D).length ((A ++ (k, a) :: D).flatMap tmf)) := by
              show W5.ownsRow _ _ _ _ _ _
              have e1 : (A ++ (k, a) :: D).length = 0 + A.length + 1 + D.length := by simp; omega
              have e2 : (A ++ (k, a) :: D).flatMap tmf = [] ++ A.flatMap tmf ++ [.string k, .int .i64 (a : Int)] ++ D.flatMap tmf := by simp [List.flatMap_append, tmf]
              rw [e1, e2]; exact ho5
            clear ho5 hg5
            refine hK.out (Act.put _ (some 112) v3) _ (HG5.out.keep hd1) (fun hHeld => ?_)
            clear hK K
            simp only [Act.put, List.setIfInBounds_toArray, List.set_cons_zero, List.set_cons_succ]
            refine takeW 21 113 (v := ?_) rfl rfl (by decide) (by kernel_rfl) (by kernel_rfl) (by kernel_rfl) (fun _ _ _ h => h) (by rfl) ?_ (fun _ => hHeld) ?_
            rotate_left
            · (intro w; (try intro hSw); (try dsimp only at hSw); go_simp; try with_reducible rfl)
            simp only [Act.put, List.setIfInBounds_toArray, List.set_cons_zero, List.set_cons_succ]
            refine takeW 22 114 (v := ?_) rfl rfl (by decide) (by kernel_rfl) (by kernel_rfl) (by kernel_rfl) (fun _ _ _ h => h) (by rfl) ?_ (fun _ => hHeld) ?_
            rotate_left
            · (intro w; (try intro hSw); (try dsimp only at hSw); go_simp; try with_reducible rfl)
            simp only [Act.put, List.setIfInBounds_toArray, List.set_cons_zero, List.set_cons_succ]
            clear hHeld
            obtain ⟨p1, q1, hv3⟩ := own_slice HO5.out
            rw [hv3] at HO5 ⊢
            have HF := Lib.hid (HR1.out.trans (HH.out.laid HG5.out HO5.out))
            have c5 := HG5.out.keep hd1
            have f5 := (HH.out.gr HG5.out).f1
            have l5 := (HH.out.gr HG5.out).lt
            generalize (A ++ (k, a) :: D).length = nn at *
            refine stepS (by kernel_rfl) rfl (by kernel_rfl) (fun K hK => ?_)
            go_simp
            refine hK.out _ _ ?_
            clear hK K
            refine doneL (by kernel_rfl) ?_ _
            go_wp2
            go_ret
            exact ⟨rfl, by rw [HIn.out]; exact HF.out⟩
        · have hgi : (A.length : Int) < (M.length : Int) := by omega
          simp only [tlt, Bool.or_eq_false_iff, Bool.and_eq_false_iff, decide_eq_false_iff_not] at hno
          obtain ⟨hn1, hn2⟩ := hno
          have hn1' : ¬ (y2 : Int) < (a : Int) := by omega
          clear hAD HJ HJ2
          by_cases hya : y2 = a
          · subst hya
            have hl' : Op.bytesLess y1.toList k.toList = false := by
              rcases hn2 with hn2 | hn2
              · exact absurd rfl hn2
              · exact hn2
            clear hn1 hn2 hn1'
            have hn1' : ¬ (y2 : Int) < (y2 : Int) := by omega
            subst hadq
            go_upto_region 12 with fail
            refine beginL 23 (fun w' => w'.cell? ⟨r, 1, none⟩ = some (.slice (some ⟨b, off, none⟩) M.length cap1)) (by kernel_rfl) (by exact hdr) (fun hHeld => ?_)
            refine takeW 0 92 (v := ?_) rfl rfl (by decide) (by kernel_rfl) (by kernel_rfl) (by kernel_rfl) (fun _ _ _ h => h) (by rfl) ?_ (fun _ => hHeld) ?_
            rotate_left
            · (intro w; (try intro hSw); (try dsimp only at hSw); go_simp; try with_reducible rfl)
            simp only [Act.put, List.setIfInBounds_toArray, List.set_cons_zero, List.set_cons_succ]
            refine takeW 2 94 (v := ?_) rfl rfl (by decide) (by kernel_rfl) (by kernel_rfl) (by kernel_rfl) (fun _ _ _ h => h) (by rfl) ?_ (fun _ => hHeld) ?_
            rotate_left
            · (intro w; (try intro hSw); (try dsimp only at hSw); go_simp; try with_reducible rfl)
            simp only [Act.put, List.setIfInBounds_toArray, List.set_cons_zero, List.set_cons_succ]
            refine takeW 3 95 (v := ?_) rfl rfl (by decide) (by kernel_rfl) (by kernel_rfl) (by kernel_rfl) (fun _ _ _ h => h) (by rfl) ?_ (fun _ => hHeld) ?_
            rotate_left
            · (intro w; (try intro hSw); (try dsimp only at hSw); go_simp; try with_reducible rfl)
            simp only [Act.put, List.setIfInBounds_toArray, List.set_cons_zero, List.set_cons_succ]
            refine takeW 4 96 (v := ?_) rfl rfl (by decide) (by kernel_rfl) (by kernel_rfl) (by kernel_rfl) (fun _ _ _ h => h) (by rfl) ?_ (fun _ => hHeld) ?_
            rotate_left
            · (intro w; (try intro hSw); (try dsimp only at hSw); go_simp; try with_reducible rfl)
            simp only [Act.put, List.setIfInBounds_toArray, List.set_cons_zero, List.set_cons_succ]
            refine takeS 5 97 (v := ?_) rfl rfl (by decide) (by kernel_rfl) (by kernel_rfl) (by kernel_rfl) (by kernel_rfl) (by kernel_rfl) (fun _ _ _ h => h) (by rfl) ?_ hHeld ?_
            rotate_left
            · (intro w; (try intro hSw); (try dsimp only at hSw); go_simp; try with_reducible rfl)
            simp only [Act.put, List.setIfInBounds_toArray, List.set_cons_zero, List.set_cons_succ]
            refine takeW 6 98 (v := ?_) rfl rfl (by decide) (by kernel_rfl) (by kernel_rfl) (by kernel_rfl) (fun _ _ _ h => h) (by rfl) ?_ (fun _ => hHeld) ?_
            rotate_left
            · (intro w; (try intro hSw); (try dsimp only at hSw); go_simp; try with_reducible rfl)
            simp only [Act.put, List.setIfInBounds_toArray, List.set_cons_zero, List.set_cons_succ]
            refine takeW 7 99 (v := ?_) rfl rfl (by decide) (by kernel_rfl) (by kernel_rfl) (by kernel_rfl) (fun _ _ _ h => h) (by rfl) ?_ (fun _ => hHeld) ?_
            rotate_left
            · (intro w; (try intro hSw); (try dsimp only at hSw); go_simp; try with_reducible rfl)
            simp only [Act.put, List.setIfInBounds_toArray, List.set_cons_zero, List.set_cons_succ]
            refine takeW 9 101 (v := ?_) rfl rfl (by decide) (by kernel_rfl) (by kernel_rfl) (by kernel_rfl) (fun _ _ _ h => h) (by rfl) ?_ (fun _ => hHeld) ?_
            rotate_left
            · (intro w; (try intro hSw); (try dsimp only at hSw); go_simp; try with_reducible rfl)
            simp only [Act.put, List.setIfInBounds_toArray, List.set_cons_zero, List.set_cons_succ]
            refine takeW 10 102 (v := ?_) rfl rfl (by decide) (by kernel_rfl) (by kernel_rfl) (by kernel_rfl) (fun _ _ _ h => h) (by rfl) ?_ (fun _ => hHeld) ?_
            rotate_left
            · (intro w; (try intro hSw); (try dsimp only at hSw); go_simp; try with_reducible rfl)
            simp only [Act.put, List.setIfInBounds_toArray, List.set_cons_zero, List.set_cons_succ]
            refine takeW 11 103 (v := ?_) rfl rfl (by decide) (by kernel_rfl) (by kernel_rfl) (by kernel_rfl) (fun _ _ _ h => h) (by rfl) ?_ (fun _ => hHeld) ?_
            rotate_left
            · (intro w; (try intro hSw); (try dsimp only at hSw); go_simp; try with_reducible rfl)
            simp only [Act.put, List.setIfInBounds_toArray, List.set_cons_zero, List.set_cons_succ]
            refine takeW 14 106 (v := ?_) rfl rfl (by decide) (by kernel_rfl) (by kernel_rfl) (by kernel_rfl) (fun _ _ _ h => h) (by rfl) ?_ (fun _ => hHeld) ?_
            rotate_left
            · (intro w; (try intro hSw); (try dsimp only at hSw); go_simp; try with_reducible rfl)
            simp only [Act.put, List.setIfInBounds_toArray, List.set_cons_zero, List.set_cons_succ]
            refine takeW 15 107 (v := ?_) rfl rfl (by decide) (by kernel_rfl) (by kernel_rfl) (by kernel_rfl) (fun _ _ _ h => h) (by rfl) ?_ (fun _ => hHeld) ?_
            rotate_left
            · (intro w; (try intro hSw); (try dsimp only at hSw); go_simp; try with_reducible rfl)
            simp only [Act.put, List.setIfInBounds_toArray, List.set_cons_zero, List.set_cons_succ]
            refine takeW 16 108 (v := ?_) rfl rfl (by decide) (by kernel_rfl) (by kernel_rfl) (by kernel_rfl) (fun _ _ _ h => h) (by rfl) ?_ (fun _ => hHeld) ?_
            rotate_left
            · (intro w; (try intro hSw); (try dsimp only at hSw); go_simp; try with_reducible rfl)
            simp only [Act.put, List.setIfInBounds_toArray, List.set_cons_zero, List.set_cons_succ]
            refine takeS 17 109 (v := ?_) rfl rfl (by decide) (by kernel_rfl) (by kernel_rfl) (by kernel_rfl) (by kernel_rfl) (by kernel_rfl) (fun _ _ _ h => h) (by rfl) ?_ hHeld ?_
            rotate_left
            · (intro w; (try intro hSw); (try dsimp only at hSw); go_simp; try with_reducible rfl)
            simp only [Act.put, List.setIfInBounds_toArray, List.set_cons_zero, List.set_cons_succ]
            refine takeW 18 110 (v := ?_) rfl rfl (by decide) (by kernel_rfl) (by kernel_rfl) (by kernel_rfl) (fun _ _ _ h => h) (by rfl) ?_ (fun _ => hHeld) ?_
            rotate_left
            · (intro w; (try intro hSw); (try dsimp only at hSw); go_simp; try with_reducible rfl)
            simp only [Act.put, List.setIfInBounds_toArray, List.set_cons_zero, List.set_cons_succ]
            refine takeW 19 111 (v := ?_) rfl rfl (by decide) (by kernel_rfl) (by kernel_rfl) (by kernel_rfl) (fun _ _ _ h => h) (by rfl) ?_ (fun _ => hHeld) ?_
            rotate_left
            · (intro w; (try intro hSw); (try dsimp only at hSw); go_simp; try with_reducible rfl)
            simp only [Act.put, List.setIfInBounds_toArray, List.set_cons_zero, List.set_cons_succ]
            obtain ⟨V, hV⟩ : ∃ V, V = w1.drew := ⟨_, rfl⟩
            rw [← hV] at HGV ⊢
            clear hV hdr
            refine stepC2 1 12 (by kernel_rfl) rfl rfl (fun K hK => ?_) (fun K hK => ?_)
            · skip
              go_simp
              have HO1 : Hid (World.ownsRow (V.alloc (.cells #[] 61)) w1.heap.size 61 2 (.slice (some ⟨V.heap.size, 0, none⟩) 0 0) 0 []) := own_lit0 V w1.heap.size 61 _ rfl HGV.out.size
              have HG1 : Hid (Gr w1 (V.alloc (.cells #[] 61))) := HGV.out.alloc
              have HsV : Hid (∀ g, g = World.size0 (V.alloc (.cells #[] 61)) → V.heap.size < g) := fun g hg => by rw [hg]; simp [World.size0]
              obtain ⟨W1, hW1⟩ : ∃ x, x = V.alloc (.cells #[] 61) := ⟨_, rfl⟩
              rw [← hW1] at HO1 HG1 HsV ⊢
              clear hW1
              refine hK.out _ _ (HG1.out.keep hd1) ?_
              clear hK K
              refine stepC2 8 12 (by kernel_rfl) rfl rfl (fun K hK => ?_) (fun K hK => ?_)
              · skip
                refine step_append_row (by rfl) _ _ 36 (by rfl) w1.heap.size 61 i0 (.agg #[.string ⟨#[]⟩, .int .i64 0]) 2 24 Tryd.underlying36 hi0 hz0 hz1 hz2 rfl (by decide) _ 0 [] (by rfl) HO1.out tmf_len A (some ⟨b, off, none⟩) cap1 (by rfl) HNil.out (HRows.out.1.gr HG1.out) (tmf_flat_one A) (by have := HLen.out; unfold maxLen; omega) (by have := HLen.out; omega) HG1.out.size ?_
                intro v1 W2 ho2 hg2
                have HO2 := Lib.hid ho2
                have HG2 : Hid (Gr w1 W2) := HG1.out.grown hg2 (fun j hj => (HO1.out.lt j hj).1)
                clear ho2 hg2
                refine hK.out (Act.put _ (some 100) v1) _ (HG2.out.keep hd1) ?_
                clear hK K
                simp only [Act.put, List.setIfInBounds_toArray, List.set_cons_zero, List.set_cons_succ]
                refine stepC 12 (by kernel_rfl) rfl (fun K hK => ?_)
                go_simp
                have HO3 := Lib.hid (HO2.out.alloc (.cells #[.string k, .int .i64 (y2 : Int)] 61))
                have HG3 : Hid (Gr w1 (W2.alloc (.cells #[.string k, .int .i64 (y2 : Int)] 61))) := HG2.out.alloc
                have HC : Hid (∀ j u, [Value.string k, .int .i64 (y2 : Int)][j]? = some u → World.cell? (W2.alloc (.cells #[.string k, .int .i64 (y2 : Int)] 61)) ((⟨W2.heap.size, 0, none⟩ : Addr).add j) = some u) := cells_two rfl
                obtain ⟨W3, hW3⟩ : ∃ x, x = W2.alloc (.cells #[.string k, .int .i64 (y2 : Int)] 61) := ⟨_, rfl⟩
                rw [← hW3] at HO3 HG3 HC ⊢
                clear hW3
                refine hK.out _ _ (HG3.out.keep hd1) (fun _ => ?_)
                clear hK K
                clear hHeld
                refine stepC 13 (by kernel_rfl) rfl (fun K hK => ?_)
                refine step_append_at (by rfl) _ _ 36 (by rfl) w1.heap.size 61 i0 (.agg #[.string ⟨#[]⟩, .int .i64 0]) 2 24 Tryd.underlying36 hi0 hz0 hz1 hz2 rfl (by decide) v1 (0 + A.length) ([] ++ A.flatMap tmf) (by rfl) HO3.out ⟨W2.heap.size, 0, none⟩ 1 1 [.string k, .int .i64 (y2 : Int)] (by rfl) rfl HC.out (by intro u hu; simp at hu; rcases hu with rfl | rfl <;> rfl) (by have := HLen.out; unfold maxLen; omega) (by have := HLen.out; omega) HG3.out.size ?_
                intro v2 W4 ho4 hg4 hat4
                have HO4 := Lib.hid ho4
                have HG4 : Hid (Gr w1 W4) := HG3.out.grown hg4 (fun j hj => (HO3.out.lt j hj).1)
                clear ho4 hg4 hat4
                refine hK.out (Act.put _ (some 105) v2) _ (HG4.out.keep hd1) (fun _ => ?_)
                clear hK K
                simp only [Act.put, List.setIfInBounds_toArray, List.set_cons_zero, List.set_cons_succ]
                refine stepC 20 (by kernel_rfl) rfl (fun K hK => ?_)
                refine step_append_row (by rfl) _ _ 36 (by rfl) w1.heap.size 61 i0 (.agg #[.string ⟨#[]⟩, .int .i64 0]) 2 24 Tryd.underlying36 hi0 hz0 hz1 hz2 rfl (by decide) v2 (0 + A.length + 1) ([] ++ A.flatMap tmf ++ [.string k, .int .i64 (y2 : Int)]) (by rfl) HO4.out tmf_len D (highAd (some ⟨b, off, none⟩) cap1 A.length) (cap1 - A.length) (by rfl) HRows.out.2.2 (HRows.out.2.1.gr HG4.out) (tmf_flat_one D) (by have := HLen.out; unfold maxLen; omega) (by have := HLen.out; omega) HG4.out.size ?_
                intro v3 W5 ho5 hg5
                have HG5 : Hid (Gr w1 W5) := HG4.out.grown hg5 (fun j hj => (HO4.out.lt j hj).1)
                have HO5 : Hid (W5.ownsRow w1.heap.size 61 2 v3 (A ++ (k, y2) :: D).length ((A ++ (k, y2) :: D).flatMap tmf)) := by
                  show W5.ownsRow _ _ _ _ _ _
                  have e1 : (A ++ (k, y2) :: D).length = 0 + A.length + 1 + D.length := by simp; omega
                  have e2 : (A ++ (k, y2) :: D).flatMap tmf = [] ++ A.flatMap tmf ++ [.string k, .int .i64 (y2 : Int)] ++ D.flatMap tmf := by simp [List.flatMap_append, tmf]
                  rw [e1, e2]; exact ho5
                clear ho5 hg5
                refine hK.out (Act.put _ (some 112) v3) _ (HG5.out.keep hd1) (fun hHeld => ?_)
                clear hK K
                simp only [Act.put, List.setIfInBounds_toArray, List.set_cons_zero, List.set_cons_succ]
                refine takeW 21 113 (v := ?_) rfl rfl (by decide) (by kernel_rfl) (by kernel_rfl) (by kernel_rfl) (fun _ _ _ h => h) (by rfl) ?_ (fun _ => hHeld) ?_
                rotate_left
                · (intro w; (try intro hSw); (try dsimp only at hSw); go_simp; try with_reducible rfl)
                simp only [Act.put, List.setIfInBounds_toArray, List.set_cons_zero, List.set_cons_succ]
                refine takeW 22 114 (v := ?_) rfl rfl (by decide) (by kernel_rfl) (by kernel_rfl) (by kernel_rfl) (fun _ _ _ h => h) (by rfl) ?_ (fun _ => hHeld) ?_
                rotate_left
                · (intro w; (try intro hSw); (try dsimp only at hSw); go_simp; try with_reducible rfl)
                simp only [Act.put, List.setIfInBounds_toArray, List.set_cons_zero, List.set_cons_succ]
                clear hHeld
                obtain ⟨p1, q1, hv3⟩ := own_slice HO5.out
                rw [hv3] at HO5 ⊢
                have HF := Lib.hid (HR1.out.trans (HH.out.laid HG5.out HO5.out))
                have c5 := HG5.out.keep hd1
                have f5 := (HH.out.gr HG5.out).f1
                have l5 := (HH.out.gr HG5.out).lt
                generalize (A ++ (k, y2) :: D).length = nn at *
                refine stepS (by kernel_rfl) rfl (by kernel_rfl) (fun K hK => ?_)
                go_simp
                refine hK.out _ _ ?_
                clear hK K
                refine doneL (by kernel_rfl) ?_ _
                go_wp2
                go_ret
                exact ⟨rfl, by rw [HIn.out]; exact HF.out⟩
              · skip
                go_simp
                have HO2 := Lib.hid (HO1.out.alloc (.cells #[.string k, .int .i64 (y2 : Int)] 61))
                have HG2 : Hid (Gr w1 (W1.alloc (.cells #[.string k, .int .i64 (y2 : Int)] 61))) := HG1.out.alloc
                have HC : Hid (∀ j u, [Value.string k, .int .i64 (y2 : Int)][j]? = some u → World.cell? (W1.alloc (.cells #[.string k, .int .i64 (y2 : Int)] 61)) ((⟨W1.heap.size, 0, none⟩ : Addr).add j) = some u) := cells_two rfl
                obtain ⟨W2, hW2⟩ : ∃ x, x = W1.alloc (.cells #[.string k, .int .i64 (y2 : Int)] 61) := ⟨_, rfl⟩
                rw [← hW2] at HO2 HG2 HC ⊢
                clear hW2
                refine hK.out _ _ (HG2.out.keep hd1) ?_
                clear hK K
                refine stepC 8 (by kernel_rfl) rfl (fun K hK => ?_)
                refine step_append_row (by rfl) _ _ 36 (by rfl) w1.heap.size 61 i0 (.agg #[.string ⟨#[]⟩, .int .i64 0]) 2 24 Tryd.underlying36 hi0 hz0 hz1 hz2 rfl (by decide) _ 0 [] (by rfl) HO2.out tmf_len A (some ⟨b, off, none⟩) cap1 (by rfl) HNil.out (HRows.out.1.gr HG2.out) (tmf_flat_one A) (by have := HLen.out; unfold maxLen; omega) (by have := HLen.out; omega) HG2.out.size ?_
                intro v1 W3 ho3 hg3
                have HO3 := Lib.hid ho3
                have HG3 : Hid (Gr w1 W3) := HG2.out.grown hg3 (fun j hj => (HO2.out.lt j hj).1)
                have HC3 : Hid (∀ j u, [Value.string k, .int .i64 (y2 : Int)][j]? = some u → World.cell? W3 ((⟨W1.heap.size, 0, none⟩ : Addr).add j) = some u) := fun j u hj => hg3.cell (HC.out j u hj) (fun e => by rw [Addr.add_lit] at e; injection e with e; simp only at e; have := HsV.out _ rfl; unfold World.size0 at this; omega)
                clear ho3 hg3 HC
                refine hK.out (Act.put _ (some 100) v1) _ (HG3.out.keep hd1) (fun _ => ?_)
                clear hK K
                simp only [Act.put, List.setIfInBounds_toArray, List.set_cons_zero, List.set_cons_succ]
                clear hHeld
                refine stepC 13 (by kernel_rfl) rfl (fun K hK => ?_)
                refine step_append_at (by rfl) _ _ 36 (by rfl) w1.heap.size 61 i0 (.agg #[.string ⟨#[]⟩, .int .i64 0]) 2 24 Tryd.underlying36 hi0 hz0 hz1 hz2 rfl (by decide) v1 (0 + A.length) ([] ++ A.flatMap tmf) (by rfl) HO3.out ⟨W1.heap.size, 0, none⟩ 1 1 [.string k, .int .i64 (y2 : Int)] (by rfl) rfl HC3.out (by intro u hu; simp at hu; rcases hu with rfl | rfl <;> rfl) (by have := HLen.out; unfold maxLen; omega) (by have := HLen.out; omega) HG3.out.size ?_
                intro v2 W4 ho4 hg4 hat4
                have HO4 := Lib.hid ho4
                have HG4 : Hid (Gr w1 W4) := HG3.out.grown hg4 (fun j hj => (HO3.out.lt j hj).1)
                clear ho4 hg4 hat4
                refine hK.out (Act.put _ (some 105) v2) _ (HG4.out.keep hd1) (fun _ => ?_)
                clear hK K
                simp only [Act.put, List.setIfInBounds_toArray, List.set_cons_zero, List.set_cons_succ]
                refine stepC 20 (by kernel_rfl) rfl (fun K hK => ?_)
                refine step_append_row (by rfl) _ _ 36 (by rfl) w1.heap.size 61 i0 (.agg #[.string ⟨#[]⟩, .int .i64 0]) 2 24 Tryd.underlying36 hi0 hz0 hz1 hz2 rfl (by decide) v2 (0 + A.length + 1) ([] ++ A.flatMap tmf ++ [.string k, .int .i64 (y2 : Int)]) (by rfl) HO4.out tmf_len D (highAd (some ⟨b, off, none⟩) cap1 A.length) (cap1 - A.length) (by rfl) HRows.out.2.2 (HRows.out.2.1.gr HG4.out) (tmf_flat_one D) (by have := HLen.out; unfold maxLen; omega) (by have := HLen.out; omega) HG4.out.size ?_
                intro v3 W5 ho5 hg5
                have HG5 : Hid (Gr w1 W5) := HG4.out.grown hg5 (fun j hj => (HO4.out.lt j hj).1)
                have HO5 : Hid (W5.ownsRow w1.heap.size 61 2 v3 (A ++ (k, y2) :: D).length ((A ++ (k, y2) :: D).flatMap tmf)) := by
                  show W5.ownsRow _ _ _ _ _ _
                  have e1 : (A ++ (k, y2) :: D).length = 0 + A.length + 1 + D.length := by simp; omega
                  have e2 : (A ++ (k, y2) :: D).flatMap tmf = [] ++ A.flatMap tmf ++ [.string k, .int .i64 (y2 : Int)] ++ D.flatMap tmf := by simp [List.flatMap_append, tmf]
                  rw [e1, e2]; exact ho5
                clear ho5 hg5
                refine hK.out (Act.put _ (some 112) v3) _ (HG5.out.keep hd1) (fun hHeld => ?_)
                clear hK K
                simp only [Act.put, List.setIfInBounds_toArray, List.set_cons_zero, List.set_cons_succ]
                refine takeW 21 113 (v := ?_) rfl rfl (by decide) (by kernel_rfl) (by kernel_rfl) (by kernel_rfl) (fun _ _ _ h => h) (by rfl) ?_ (fun _ => hHeld) ?_
                rotate_left
                · (intro w; (try intro hSw); (try dsimp only at hSw); go_simp; try with_reducible rfl)
                simp only [Act.put, List.setIfInBounds_toArray, List.set_cons_zero, List.set_cons_succ]
                refine takeW 22 114 (v := ?_) rfl rfl (by decide) (by kernel_rfl) (by kernel_rfl) (by kernel_rfl) (fun _ _ _ h => h) (by rfl) ?_ (fun _ => hHeld) ?_
                rotate_left
                · (intro w; (try intro hSw); (try dsimp only at hSw); go_simp; try with_reducible rfl)
                simp only [Act.put, List.setIfInBounds_toArray, List.set_cons_zero, List.set_cons_succ]
                clear hHeld
                obtain ⟨p1, q1, hv3⟩ := own_slice HO5.out
                rw [hv3] at HO5 ⊢
                have HF := Lib.hid (HR1.out.trans (HH.out.laid HG5.out HO5.out))
                have c5 := HG5.out.keep hd1
                have f5 := (HH.out.gr HG5.out).f1
                have l5 := (HH.out.gr HG5.out).lt
                generalize (A ++ (k, y2) :: D).length = nn at *
                refine stepS (by kernel_rfl) rfl (by kernel_rfl) (fun K hK => ?_)
                go_simp
                refine hK.out _ _ ?_
                clear hK K
                refine doneL (by kernel_rfl) ?_ _
                go_wp2
                go_ret
                exact ⟨rfl, by rw [HIn.out]; exact HF.out⟩
            · skip
              go_simp
              have HG1 : Hid (Gr w1 (V.alloc (.cells #[.string k, .int .i64 (y2 : Int)] 61))) := HGV.out.alloc
              have HC : Hid (∀ j u, [Value.string k, .int .i64 (y2 : Int)][j]? = some u → World.cell? (V.alloc (.cells #[.string k, .int .i64 (y2 : Int)] 61)) ((⟨V.heap.size, 0, none⟩ : Addr).add j) = some u) := cells_two rfl
              have HsV : Hid (∀ g, g = World.size0 (V.alloc (.cells #[.string k, .int .i64 (y2 : Int)] 61)) → V.heap.size < g) := fun g hg => by rw [hg]; simp [World.size0]
              obtain ⟨W1, hW1⟩ : ∃ x, x = V.alloc (.cells #[.string k, .int .i64 (y2 : Int)] 61) := ⟨_, rfl⟩
              rw [← hW1] at HG1 HC HsV ⊢
              clear hW1
              refine hK.out _ _ (HG1.out.keep hd1) ?_
              clear hK K
              refine stepC 1 (by kernel_rfl) rfl (fun K hK => ?_)
              go_simp
              have HO2 : Hid (World.ownsRow (W1.alloc (.cells #[] 61)) w1.heap.size 61 2 (.slice (some ⟨W1.heap.size, 0, none⟩) 0 0) 0 []) := own_lit0 W1 w1.heap.size 61 _ rfl HG1.out.size
              have HG2 : Hid (Gr w1 (W1.alloc (.cells #[] 61))) := HG1.out.alloc
              have HC2 : Hid (∀ j u, [Value.string k, .int .i64 (y2 : Int)][j]? = some u → World.cell? (W1.alloc (.cells #[] 61)) ((⟨V.heap.size, 0, none⟩ : Addr).add j) = some u) := fun j u hj => (Gr.refl _).alloc.keep (HC.out j u hj)
              obtain ⟨W2, hW2⟩ : ∃ x, x = W1.alloc (.cells #[] 61) := ⟨_, rfl⟩
              rw [← hW2] at HO2 HG2 HC2 ⊢
              clear hW2 HC
              refine hK.out _ _ (HG2.out.keep hd1) (fun _ => ?_)
              clear hK K
              refine stepC 8 (by kernel_rfl) rfl (fun K hK => ?_)
              refine step_append_row (by rfl) _ _ 36 (by rfl) w1.heap.size 61 i0 (.agg #[.string ⟨#[]⟩, .int .i64 0]) 2 24 Tryd.underlying36 hi0 hz0 hz1 hz2 rfl (by decide) _ 0 [] (by rfl) HO2.out tmf_len A (some ⟨b, off, none⟩) cap1 (by rfl) HNil.out (HRows.out.1.gr HG2.out) (tmf_flat_one A) (by have := HLen.out; unfold maxLen; omega) (by have := HLen.out; omega) HG2.out.size ?_
              intro v1 W3 ho3 hg3
              have HO3 := Lib.hid ho3
              have HG3 : Hid (Gr w1 W3) := HG2.out.grown hg3 (fun j hj => (HO2.out.lt j hj).1)
              have HC3 : Hid (∀ j u, [Value.string k, .int .i64 (y2 : Int)][j]? = some u → World.cell? W3 ((⟨V.heap.size, 0, none⟩ : Addr).add j) = some u) := fun j u hj => hg3.cell (HC2.out j u hj) (fun e => by rw [Addr.add_lit] at e; injection e with e; simp only at e; have := HsV.out _ rfl; unfold World.size0 at this; omega)
              clear ho3 hg3 HC2
              refine hK.out (Act.put _ (some 100) v1) _ (HG3.out.keep hd1) (fun _ => ?_)
              clear hK K
              simp only [Act.put, List.setIfInBounds_toArray, List.set_cons_zero, List.set_cons_succ]
              clear hHeld
              refine stepC 13 (by kernel_rfl) rfl (fun K hK => ?_)
              refine step_append_at (by rfl) _ _ 36 (by rfl) w1.heap.size 61 i0 (.agg #[.string ⟨#[]⟩, .int .i64 0]) 2 24 Tryd.underlying36 hi0 hz0 hz1 hz2 rfl (by decide) v1 (0 + A.length) ([] ++ A.flatMap tmf) (by rfl) HO3.out ⟨V.heap.size, 0, none⟩ 1 1 [.string k, .int .i64 (y2 : Int)] (by rfl) rfl HC3.out (by intro u hu; simp at hu; rcases hu with rfl | rfl <;> rfl) (by have := HLen.out; unfold maxLen; omega) (by have := HLen.out; omega) HG3.out.size ?_
              intro v2 W4 ho4 hg4 hat4
              have HO4 := Lib.hid ho4
              have HG4 : Hid (Gr w1 W4) := HG3.out.grown hg4 (fun j hj => (HO3.out.lt j hj).1)
              clear ho4 hg4 hat4
              refine hK.out (Act.put _ (some 105) v2) _ (HG4.out.keep hd1) (fun _ => ?_)
              clear hK K
              simp only [Act.put, List.setIfInBounds_toArray, List.set_cons_zero, List.set_cons_succ]
              refine stepC 20 (by kernel_rfl) rfl (fun K hK => ?_)
              refine step_append_row (by rfl) _ _ 36 (by rfl) w1.heap.size 61 i0 (.agg #[.string ⟨#[]⟩, .int .i64 0]) 2 24 Tryd.underlying36 hi0 hz0 hz1 hz2 rfl (by decide) v2 (0 + A.length + 1) ([] ++ A.flatMap tmf ++ [.string k, .int .i64 (y2 : Int)]) (by rfl) HO4.out tmf_len D (highAd (some ⟨b, off, none⟩) cap1 A.length) (cap1 - A.length) (by rfl) HRows.out.2.2 (HRows.out.2.1.gr HG4.out) (tmf_flat_one D) (by have := HLen.out; unfold maxLen; omega) (by have := HLen.out; omega) HG4.out.size ?_
              intro v3 W5 ho5 hg5
              have HG5 : Hid (Gr w1 W5) := HG4.out.grown hg5 (fun j hj => (HO4.out.lt j hj).1)
              have HO5 : Hid (W5.ownsRow w1.heap.size 61 2 v3 (A ++ (k, y2) :: D).length ((A ++ (k, y2) :: D).flatMap tmf)) := by
                show W5.ownsRow _ _ _ _ _ _
                have e1 : (A ++ (k, y2) :: D).length = 0 + A.length + 1 + D.length := by simp; omega
                have e2 : (A ++ (k, y2) :: D).flatMap tmf = [] ++ A.flatMap tmf ++ [.string k, .int .i64 (y2 : Int)] ++ D.flatMap tmf := by simp [List.flatMap_append, tmf]
                rw [e1, e2]; exact ho5
              clear ho5 hg5
              refine hK.out (Act.put _ (some 112) v3) _ (HG5.out.keep hd1) (fun hHeld => ?_)
              clear hK K
              simp only [Act.put, List.setIfInBounds_toArray, List.set_cons_zero, List.set_cons_succ]
              refine takeW 21 113 (v := ?_) rfl rfl (by decide) (by kernel_rfl) (by kernel_rfl) (by kernel_rfl) (fun _ _ _ h => h) (by rfl) ?_ (fun _ => hHeld) ?_
              rotate_left
              · (intro w; (try intro hSw); (try dsimp only at hSw); go_simp; try with_reducible rfl)
              simp only [Act.put, List.setIfInBounds_toArray, List.set_cons_zero, List.set_cons_succ]
              refine takeW 22 114 (v := ?_) rfl rfl (by decide) (by kernel_rfl) (by kernel_rfl) (by kernel_rfl) (fun _ _ _ h => h) (by rfl) ?_ (fun _ => hHeld) ?_
              rotate_left
              · (intro w; (try intro hSw); (try dsimp only at hSw); go_simp; try with_reducible rfl)
              simp only [Act.put, List.setIfInBounds_toArray, List.set_cons_zero, List.set_cons_succ]
              clear hHeld
              obtain ⟨p1, q1, hv3⟩ := own_slice HO5.out
              rw [hv3] at HO5 ⊢
              have HF := Lib.hid (HR1.out.trans (HH.out.laid HG5.out HO5.out))
              have c5 := HG5.out.keep hd1
              have f5 := (HH.out.gr HG5.out).f1
              have l5 := (HH.out.gr HG5.out).lt
              generalize (A ++ (k, y2) :: D).length = nn at *
              refine stepS (by kernel_rfl) rfl (by kernel_rfl) (fun K hK => ?_)
              go_simp
              refine hK.out _ _ ?_
              clear hK K
              refine doneL (by kernel_rfl) ?_ _
              go_wp2
              go_ret
              exact ⟨rfl, by rw [HIn.out]; exact HF.out⟩
          · have hyb : ((y2 : Int) == (a : Int)) = false := by simp; omega
            clear hn1 hn2 hya
            subst hadq
            go_upto_region 12 with fail
            refine beginL 23 (fun w' => w'.cell? ⟨r, 1, none⟩ = some (.slice (some ⟨b, off, none⟩) M.length cap1)) (by kernel_rfl) (by exact hdr) (fun hHeld => ?_)
            refine takeW 0 92 (v := ?_) rfl rfl (by decide) (by kernel_rfl) (by kernel_rfl) (by kernel_rfl) (fun _ _ _ h => h) (by rfl) ?_ (fun _ => hHeld) ?_
            rotate_left
            · (intro w; (try intro hSw); (try dsimp only at hSw); go_simp; try with_reducible rfl)
            simp only [Act.put, List.setIfInBounds_toArray, List.set_cons_zero, List.set_cons_succ]
            refine takeW 2 94 (v := ?_) rfl rfl (by decide) (by kernel_rfl) (by kernel_rfl) (by kernel_rfl) (fun _ _ _ h => h) (by rfl) ?_ (fun _ => hHeld) ?_
            rotate_left
            · (intro w; (try intro hSw); (try dsimp only at hSw); go_simp; try with_reducible rfl)
            simp only [Act.put, List.setIfInBounds_toArray, List.set_cons_zero, List.set_cons_succ]
            refine takeW 3 95 (v := ?_) rfl rfl (by decide) (by kernel_rfl) (by kernel_rfl) (by kernel_rfl) (fun _ _ _ h => h) (by rfl) ?_ (fun _ => hHeld) ?_
            rotate_left
            · (intro w; (try intro hSw); (try dsimp only at hSw); go_simp; try with_reducible rfl)
            simp only [Act.put, List.setIfInBounds_toArray, List.set_cons_zero, List.set_cons_succ]
            refine takeW 4 96 (v := ?_) rfl rfl (by decide) (by kernel_rfl) (by kernel_rfl) (by kernel_rfl) (fun _ _ _ h => h) (by rfl) ?_ (fun _ => hHeld) ?_
            rotate_left
            · (intro w; (try intro hSw); (try dsimp only at hSw); go_simp; try with_reducible rfl)
            simp only [Act.put, List.setIfInBounds_toArray, List.set_cons_zero, List.set_cons_succ]
            refine takeS 5 97 (v := ?_) rfl rfl (by decide) (by kernel_rfl) (by kernel_rfl) (by kernel_rfl) (by kernel_rfl) (by kernel_rfl) (fun _ _ _ h => h) (by rfl) ?_ hHeld ?_
            rotate_left
            · (intro w; (try intro hSw); (try dsimp only at hSw); go_simp; try with_reducible rfl)
            simp only [Act.put, List.setIfInBounds_toArray, List.set_cons_zero, List.set_cons_succ]
            refine takeW 6 98 (v := ?_) rfl rfl (by decide) (by kernel_rfl) (by kernel_rfl) (by kernel_rfl) (fun _ _ _ h => h) (by rfl) ?_ (fun _ => hHeld) ?_
            rotate_left
            · (intro w; (try intro hSw); (try dsimp only at hSw); go_simp; try with_reducible rfl)
            simp only [Act.put, List.setIfInBounds_toArray, List.set_cons_zero, List.set_cons_succ]
            refine takeW 7 99 (v := ?_) rfl rfl (by decide) (by kernel_rfl) (by kernel_rfl) (by kernel_rfl) (fun _ _ _ h => h) (by rfl) ?_ (fun _ => hHeld) ?_
            rotate_left
            · (intro w; (try intro hSw); (try dsimp only at hSw); go_simp; try with_reducible rfl)
            simp only [Act.put, List.setIfInBounds_toArray, List.set_cons_zero, List.set_cons_succ]
            refine takeW 9 101 (v := ?_) rfl rfl (by decide) (by kernel_rfl) (by kernel_rfl) (by kernel_rfl) (fun _ _ _ h => h) (by rfl) ?_ (fun _ => hHeld) ?_
            rotate_left
            · (intro w; (try intro hSw); (try dsimp only at hSw); go_simp; try with_reducible rfl)
            simp only [Act.put, List.setIfInBounds_toArray, List.set_cons_zero, List.set_cons_succ]
            refine takeW 10 102 (v := ?_) rfl rfl (by decide) (by kernel_rfl) (by kernel_rfl) (by kernel_rfl) (fun _ _ _ h => h) (by rfl) ?_ (fun _ => hHeld) ?_
            rotate_left
            · (intro w; (try intro hSw); (try dsimp only at hSw); go_simp; try with_reducible rfl)
            simp only [Act.put, List.setIfInBounds_toArray, List.set_cons_zero, List.set_cons_succ]
            refine takeW 11 103 (v := ?_) rfl rfl (by decide) (by kernel_rfl) (by kernel_rfl) (by kernel_rfl) (fun _ _ _ h => h) (by rfl) ?_ (fun _ => hHeld) ?_
            rotate_left
            · (intro w; (try intro hSw); (try dsimp only at hSw); go_simp; try with_reducible rfl)
            simp only [Act.put, List.setIfInBounds_toArray, List.set_cons_zero, List.set_cons_succ]
            refine takeW 14 106 (v := ?_) rfl rfl (by decide) (by kernel_rfl) (by kernel_rfl) (by kernel_rfl) (fun _ _ _ h => h) (by rfl) ?_ (fun _ => hHeld) ?_
            rotate_left
            · (intro w; (try intro hSw); (try dsimp only at hSw); go_simp; try with_reducible rfl)
            simp only [Act.put, List.setIfInBounds_toArray, List.set_cons_zero, List.set_cons_succ]
            refine takeW 15 107 (v := ?_) rfl rfl (by decide) (by kernel_rfl) (by kernel_rfl) (by kernel_rfl) (fun _ _ _ h => h) (by rfl) ?_ (fun _ => hHeld) ?_
            rotate_left
            · (intro w; (try intro hSw); (try dsimp only at hSw); go_simp; try with_reducible rfl)
            simp only [Act.put, List.setIfInBounds_toArray, List.set_cons_zero, List.set_cons_succ]
            refine takeW 16 108 (v := ?_) rfl rfl (by decide) (by kernel_rfl) (by kernel_rfl) (by kernel_rfl) (fun _ _ _ h => h) (by rfl) ?_ (fun _ => hHeld) ?_
            rotate_left
            · (intro w; (try intro hSw); (try dsimp only at hSw); go_simp; try with_reducible rfl)
            simp only [Act.put, List.setIfInBounds_toArray, List.set_cons_zero, List.set_cons_succ]
            refine takeS 17 109 (v := ?_) rfl rfl (by decide) (by kernel_rfl) (by kernel_rfl) (by kernel_rfl) (by kernel_rfl) (by kernel_rfl) (fun _ _ _ h => h) (by rfl) ?_ hHeld ?_
            rotate_left
            · (intro w; (try intro hSw); (try dsimp only at hSw); go_simp; try with_reducible rfl)
            simp only [Act.put, List.setIfInBounds_toArray, List.set_cons_zero, List.set_cons_succ]
            refine takeW 18 110 (v := ?_) rfl rfl (by decide) (by kernel_rfl) (by kernel_rfl) (by kernel_rfl) (fun _ _ _ h => h) (by rfl) ?_ (fun _ => hHeld) ?_
            rotate_left
            · (intro w; (try intro hSw); (try dsimp only at hSw); go_simp; try with_reducible rfl)
            simp only [Act.put, List.setIfInBounds_toArray, List.set_cons_zero, List.set_cons_succ]
            refine takeW 19 111 (v := ?_) rfl rfl (by decide) (by kernel_rfl) (by kernel_rfl) (by kernel_rfl) (fun _ _ _ h => h) (by rfl) ?_ (fun _ => hHeld) ?_
            rotate_left
            · (intro w; (try intro hSw); (try dsimp only at hSw); go_simp; try with_reducible rfl)
            simp only [Act.put, List.setIfInBounds_toArray, List.set_cons_zero, List.set_cons_succ]
            obtain ⟨V, hV⟩ : ∃ V, V = w1.drew := ⟨_, rfl⟩
            rw [← hV] at HGV ⊢
            clear hV hdr
            refine stepC2 1 12 (by kernel_rfl) rfl rfl (fun K hK => ?_) (fun K hK => ?_)
            · skip
              go_simp
              have HO1 : Hid (World.ownsRow (V.alloc (.cells #[] 61)) w1.heap.size 61 2 (.slice (some ⟨V.heap.size, 0, none⟩) 0 0) 0 []) := own_lit0 V w1.heap.size 61 _ rfl HGV.out.size
              have HG1 : Hid (Gr w1 (V.alloc (.cells #[] 61))) := HGV.out.alloc
              have HsV : Hid (∀ g, g = World.size0 (V.alloc (.cells #[] 61)) → V.heap.size < g) := fun g hg => by rw [hg]; simp [World.size0]
              obtain ⟨W1, hW1⟩ : ∃ x, x = V.alloc (.cells #[] 61) := ⟨_, rfl⟩
              rw [← hW1] at HO1 HG1 HsV ⊢
              clear hW1
              refine hK.out _ _ (HG1.out.keep hd1) ?_
              clear hK K
              refine stepC2 8 12 (by kernel_rfl) rfl rfl (fun K hK => ?_) (fun K hK => ?_)
              · skip
                refine step_append_row (by rfl) _ _ 36 (by rfl) w1.heap.size 61 i0 (.agg #[.string ⟨#[]⟩, .int .i64 0]) 2 24 Tryd.underlying36 hi0 hz0 hz1 hz2 rfl (by decide) _ 0 [] (by rfl) HO1.out tmf_len A (some ⟨b, off, none⟩) cap1 (by rfl) HNil.out (HRows.out.1.gr HG1.out) (tmf_flat_one A) (by have := HLen.out; unfold maxLen; omega) (by have := HLen.out; omega) HG1.out.size ?_
                intro v1 W2 ho2 hg2
                have HO2 := Lib.hid ho2
                have HG2 : Hid (Gr w1 W2) := HG1.out.grown hg2 (fun j hj => (HO1.out.lt j hj).1)
                clear ho2 hg2
                refine hK.out (Act.put _ (some 100) v1) _ (HG2.out.keep hd1) ?_
                clear hK K
                simp only [Act.put, List.setIfInBounds_toArray, List.set_cons_zero, List.set_cons_succ]
                refine stepC 12 (by kernel_rfl) rfl (fun K hK => ?_)
                go_simp
                have HO3 := Lib.hid (HO2.out.alloc (.cells #[.string k, .int .i64 (a : Int)] 61))
                have HG3 : Hid (Gr w1 (W2.alloc (.cells #[.string k, .int .i64 (a : Int)] 61))) := HG2.out.alloc
                have HC : Hid (∀ j u, [Value.string k, .int .i64 (a : Int)][j]? = some u → World.cell? (W2.alloc (.cells #[.string k, .int .i64 (a : Int)] 61)) ((⟨W2.heap.size, 0, none⟩ : Addr).add j) = some u) := cells_two rfl
                obtain ⟨W3, hW3⟩ : ∃ x, x = W2.alloc (.cells #[.string k, .int .i64 (a : Int)] 61) := ⟨_, rfl⟩
                rw [← hW3] at HO3 HG3 HC ⊢
                clear hW3
                refine hK.out _ _ (HG3.out.keep hd1) (fun _ => ?_)
                clear hK K
                clear hHeld
                refine stepC 13 (by kernel_rfl) rfl (fun K hK => ?_)
                refine step_append_at (by rfl) _ _ 36 (by rfl) w1.heap.size 61 i0 (.agg #[.string ⟨#[]⟩, .int .i64 0]) 2 24 Tryd.underlying36 hi0 hz0 hz1 hz2 rfl (by decide) v1 (0 + A.length) ([] ++ A.flatMap tmf) (by rfl) HO3.out ⟨W2.heap.size, 0, none⟩ 1 1 [.string k, .int .i64 (a : Int)] (by rfl) rfl HC.out (by intro u hu; simp at hu; rcases hu with rfl | rfl <;> rfl) (by have := HLen.out; unfold maxLen; omega) (by have := HLen.out; omega) HG3.out.size ?_
                intro v2 W4 ho4 hg4 hat4
                have HO4 := Lib.hid ho4
                have HG4 : Hid (Gr w1 W4) := HG3.out.grown hg4 (fun j hj => (HO3.out.lt j hj).1)
                clear ho4 hg4 hat4
                refine hK.out (Act.put _ (some 105) v2) _ (HG4.out.keep hd1) (fun _ => ?_)
                clear hK K
                simp only [Act.put, List.setIfInBounds_toArray, List.set_cons_zero, List.set_cons_succ]
                refine stepC 20 (by kernel_rfl) rfl (fun K hK => ?_)
                refine step_append_row (by rfl) _ _ 36 (by rfl) w1.heap.size 61 i0 (.agg #[.string ⟨#[]⟩, .int .i64 0]) 2 24 Tryd.underlying36 hi0 hz0 hz1 hz2 rfl (by decide) v2 (0 + A.length + 1) ([] ++ A.flatMap tmf ++ [.string k, .int .i64 (a : Int)]) (by rfl) HO4.out tmf_len D (highAd (some ⟨b, off, none⟩) cap1 A.length) (cap1 - A.length) (by rfl) HRows.out.2.2 (HRows.out.2.1.gr HG4.out) (tmf_flat_one D) (by have := HLen.out; unfold maxLen; omega) (by have := HLen.out; omega) HG4.out.size ?_
                intro v3 W5 ho5 hg5
                have HG5 : Hid (Gr w1 W5) := HG4.out.grown hg5 (fun j hj => (HO4.out.lt j hj).1)
                have HO5 : Hid (W5.ownsRow w1.heap.size 61 2 v3 (A ++ (k, a) :: D).length ((A ++ (k, a) :: D).flatMap tmf)) := by
                  show W5.ownsRow _ _ _ _ _ _
                  have e1 : (A ++ (k, a) :: D).length = 0 + A.length + 1 + D.length := by simp; omega
                  have e2 : (A ++ (k, a) :: D).flatMap tmf = [] ++ A.flatMap tmf ++ [.string k, .int .i64 (a : Int)] ++ D.flatMap tmf := by simp [List.flatMap_append, tmf]
                  rw [e1, e2]; exact ho5
                clear ho5 hg5
                refine hK.out (Act.put _ (some 112) v3) _ (HG5.out.keep hd1) (fun hHeld => ?_)
                clear hK K
                simp only [Act.put, List.setIfInBounds_toArray, List.set_cons_zero, List.set_cons_succ]
                refine takeW 21 113 (v := ?_) rfl rfl (by decide) (by kernel_rfl) (by kernel_rfl) (by kernel_rfl) (fun _ _ _ h => h) (by rfl) ?_ (fun _ => hHeld) ?_
                rotate_left
                · (intro w; (try intro hSw); (try dsimp only at hSw); go_simp; try with_reducible rfl)
                simp only [Act.put, List.setIfInBounds_toArray, List.set_cons_zero, List.set_cons_succ]
                refine takeW 22 114 (v := ?_) rfl rfl (by decide) (by kernel_rfl) (by kernel_rfl) (by kernel_rfl) (fun _ _ _ h => h) (by rfl) ?_ (fun _ => hHeld) ?_
                rotate_left
                · (intro w; (try intro hSw); (try dsimp only at hSw); go_simp; try with_reducible rfl)
                simp only [Act.put, List.setIfInBounds_toArray, List.set_cons_zero, List.set_cons_succ]
                clear hHeld
                obtain ⟨p1, q1, hv3⟩ := own_slice HO5.out
                rw [hv3] at HO5 ⊢
                have HF := Lib.hid (HR1.out.trans (HH.out.laid HG5.out HO5.out))
                have c5 := HG5.out.keep hd1
                have f5 := (HH.out.gr HG5.out).f1
                have l5 := (HH.out.gr HG5.out).lt
                generalize (A ++ (k, a) :: D).length = nn at *
                refine stepS (by kernel_rfl) rfl (by kernel_rfl) (fun K hK => ?_)
                go_simp
                refine hK.out _ _ ?_
                clear hK K
                refine doneL (by kernel_rfl) ?_ _
                go_wp2
                go_ret
                exact ⟨rfl, by rw [HIn.out]; exact HF.out⟩
              · skip
                go_simp
                have HO2 := Lib.hid (HO1.out.alloc (.cells #[.string k, .int .i64 (a : Int)] 61))
                have HG2 : Hid (Gr w1 (W1.alloc (.cells #[.string k, .int .i64 (a : Int)] 61))) := HG1.out.alloc
                have HC : Hid (∀ j u, [Value.string k, .int .i64 (a : Int)][j]? = some u → World.cell? (W1.alloc (.cells #[.string k, .int .i64 (a : Int)] 61)) ((⟨W1.heap.size, 0, none⟩ : Addr).add j) = some u) := cells_two rfl
                obtain ⟨W2, hW2⟩ : ∃ x, x = W1.alloc (.cells #[.string k, .int .i64 (a : Int)] 61) := ⟨_, rfl⟩
                rw [← hW2] at HO2 HG2 HC ⊢
                clear hW2
                refine hK.out _ _ (HG2.out.keep hd1) ?_
                clear hK K
                refine stepC 8 (by kernel_rfl) rfl (fun K hK => ?_)
                refine step_append_row (by rfl) _ _ 36 (by rfl) w1.heap.size 61 i0 (.agg #[.string ⟨#[]⟩, .int .i64 0]) 2 24 Tryd.underlying36 hi0 hz0 hz1 hz2 rfl (by decide) _ 0 [] (by rfl) HO2.out tmf_len A (some ⟨b, off, none⟩) cap1 (by rfl) HNil.out (HRows.out.1.gr HG2.out) (tmf_flat_one A) (by have := HLen.out; unfold maxLen; omega) (by have := HLen.out; omega) HG2.out.size ?_
                intro v1 W3 ho3 hg3
                have HO3 := Lib.hid ho3
                have HG3 : Hid (Gr w1 W3) := HG2.out.grown hg3 (fun j hj => (HO2.out.lt j hj).1)
                have HC3 : Hid (∀ j u, [Value.string k, .int .i64 (a : Int)][j]? = some u → World.cell? W3 ((⟨W1.heap.size, 0, none⟩ : Addr).add j) = some u) := fun j u hj => hg3.cell (HC.out j u hj) (fun e => by rw [Addr.add_lit] at e; injection e with e; simp only at e; have := HsV.out _ rfl; unfold World.size0 at this; omega)
                clear ho3 hg3 HC
                refine hK.out (Act.put _ (some 100) v1) _ (HG3.out.keep hd1) (fun _ => ?_)
                clear hK K
                simp only [Act.put, List.setIfInBounds_toArray, List.set_cons_zero, List.set_cons_succ]
                clear hHeld
                refine stepC 13 (by kernel_rfl) rfl (fun K hK => ?_)
                refine step_append_at (by rfl) _ _ 36 (by rfl) w1.heap.size 61 i0 (.agg #[.string ⟨#[]⟩, .int .i64 0]) 2 24 Tryd.underlying36 hi0 hz0 hz1 hz2 rfl (by decide) v1 (0 + A.length) ([] ++ A.flatMap tmf) (by rfl) HO3.out ⟨W1.heap.size, 0, none⟩ 1 1 [.string k, .int .i64 (a : Int)] (by rfl) rfl HC3.out (by intro u hu; simp at hu; rcases hu with rfl | rfl <;> rfl) (by have := HLen.out; unfold maxLen; omega) (by have := HLen.out; omega) HG3.out.size ?_
                intro v2 W4 ho4 hg4 hat4
                have HO4 := Lib.hid ho4
                have HG4 : Hid (Gr w1 W4) := HG3.out.grown hg4 (fun j hj => (HO3.out.lt j hj).1)
                clear ho4 hg4 hat4
                refine hK.out (Act.put _ (some 105) v2) _ (HG4.out.keep hd1) (fun _ => ?_)
                clear hK K
                simp only [Act.put, List.setIfInBounds_toArray, List.set_cons_zero, List.set_cons_succ]
                refine stepC 20 (by kernel_rfl) rfl (fun K hK => ?_)
                refine step_append_row (by rfl) _ _ 36 (by rfl) w1.heap.size 61 i0 (.agg #[.string ⟨#[]⟩, .int .i64 0]) 2 24 Tryd.underlying36 hi0 hz0 hz1 hz2 rfl (by decide) v2 (0 + A.length + 1) ([] ++ A.flatMap tmf ++ [.string k, .int .i64 (a : Int)]) (by rfl) HO4.out tmf_len D (highAd (some ⟨b, off, none⟩) cap1 A.length) (cap1 - A.length) (by rfl) HRows.out.2.2 (HRows.out.2.1.gr HG4.out) (tmf_flat_one D) (by have := HLen.out; unfold maxLen; omega) (by have := HLen.out; omega) HG4.out.size ?_
                intro v3 W5 ho5 hg5
                have HG5 : Hid (Gr w1 W5) := HG4.out.grown hg5 (fun j hj => (HO4.out.lt j hj).1)
                have HO5 : Hid (W5.ownsRow w1.heap.size 61 2 v3 (A ++ (k, a) :: D).length ((A ++ (k, a) :: D).flatMap tmf)) := by
                  show W5.ownsRow _ _ _ _ _ _
                  have e1 : (A ++ (k, a) :: D).length = 0 + A.length + 1 + D.length := by simp; omega
                  have e2 : (A ++ (k, a) :: D).flatMap tmf = [] ++ A.flatMap tmf ++ [.string k, .int .i64 (a : Int)] ++ D.flatMap tmf := by simp [List.flatMap_append, tmf]
                  rw [e1, e2]; exact ho5
                clear ho5 hg5
                refine hK.out (Act.put _ (some 112) v3) _ (HG5.out.keep hd1) (fun hHeld => ?_)
                clear hK K
                simp only [Act.put, List.setIfInBounds_toArray, List.set_cons_zero, List.set_cons_succ]
                refine takeW 21 113 (v := ?_) rfl rfl (by decide) (by kernel_rfl) (by kernel_rfl) (by kernel_rfl) (fun _ _ _ h => h) (by rfl) ?_ (fun _ => hHeld) ?_
                rotate_left
                · (intro w; (try intro hSw); (try dsimp only at hSw); go_simp; try with_reducible rfl)
                simp only [Act.put, List.setIfInBounds_toArray, List.set_cons_zero, List.set_cons_succ]
                refine takeW 22 114 (v := ?_) rfl rfl (by decide) (by kernel_rfl) (by kernel_rfl) (by kernel_rfl) (fun _ _ _ h => h) (by rfl) ?_ (fun _ => hHeld) ?_
                rotate_left
                · (intro w; (try intro hSw); (try dsimp only at hSw); go_simp; try with_reducible rfl)
                simp only [Act.put, List.setIfInBounds_toArray, List.set_cons_zero, List.set_cons_succ]
                clear hHeld
                obtain ⟨p1, q1, hv3⟩ := own_slice HO5.out
                rw [hv3] at HO5 ⊢
                have HF := Lib.hid (HR1.out.trans (HH.out.laid HG5.out HO5.out))
                have c5 := HG5.out.keep hd1
                have f5 := (HH.out.gr HG5.out).f1
                have l5 := (HH.out.gr HG5.out).lt
                generalize (A ++ (k, a) :: D).length = nn at *
                refine stepS (by kernel_rfl) rfl (by kernel_rfl) (fun K hK => ?_)
                go_simp
                refine hK.out _ _ ?_
                clear hK K
                refine doneL (by kernel_rfl) ?_ _
                go_wp2
                go_ret
                exact ⟨rfl, by rw [HIn.out]; exact HF.out⟩
            · skip
              go_simp
              have HG1 : Hid (Gr w1 (V.alloc (.cells #[.string k, .int .i64 (a : Int)] 61))) := HGV.out.alloc
              have HC : Hid (∀ j u, [Value.string k, .int .i64 (a : Int)][j]? = some u → World.cell? (V.alloc (.cells #[.string k, .int .i64 (a : Int)] 61)) ((⟨V.heap.size, 0, none⟩ : Addr).add j) = some u) := cells_two rfl
              have HsV : Hid (∀ g, g = World.size0 (V.alloc (.cells #[.string k, .int .i64 (a : Int)] 61)) → V.heap.size < g) := fun g hg => by rw [hg]; simp [World.size0]
              obtain ⟨W1, hW1⟩ : ∃ x, x = V.alloc (.cells #[.string k, .int .i64 (a : Int)] 61) := ⟨_, rfl⟩
              rw [← hW1] at HG1 HC HsV ⊢
              clear hW1
              refine hK.out _ _ (HG1.out.keep hd1) ?_
              clear hK K
              refine stepC 1 (by kernel_rfl) rfl (fun K hK => ?_)
              go_simp
              have HO2 : Hid (World.ownsRow (W1.alloc (.cells #[] 61)) w1.heap.size 61 2 (.slice (some ⟨W1.heap.size, 0, none⟩) 0 0) 0 []) := own_lit0 W1 w1.heap.size 61 _ rfl HG1.out.size
              have HG2 : Hid (Gr w1 (W1.alloc (.cells #[] 61))) := HG1.out.alloc
              have HC2 : Hid (∀ j u, [Value.string k, .int .i64 (a : Int)][j]? = some u → World.cell? (W1.alloc (.cells #[] 61)) ((⟨V.heap.size, 0, none⟩ : Addr).add j) = some u) := fun j u hj => (Gr.refl _).alloc.keep (HC.out j u hj)
              obtain ⟨W2, hW2⟩ : ∃ x, x = W1.alloc (.cells #[] 61) := ⟨_, rfl⟩
              rw [← hW2] at HO2 HG2 HC2 ⊢
              clear hW2 HC
              refine hK.out _ _ (HG2.out.keep hd1) (fun _ => ?_)
              clear hK K
              refine stepC 8 (by kernel_rfl) rfl (fun K hK => ?_)
              refine step_append_row (by rfl) _ _ 36 (by rfl) w1.heap.size 61 i0 (.agg #[.string ⟨#[]⟩, .int .i64 0]) 2 24 Tryd.underlying36 hi0 hz0 hz1 hz2 rfl (by decide) _ 0 [] (by rfl) HO2.out tmf_len A (some ⟨b, off, none⟩) cap1 (by rfl) HNil.out (HRows.out.1.gr HG2.out) (tmf_flat_one A) (by have := HLen.out; unfold maxLen; omega) (by have := HLen.out; omega) HG2.out.size ?_
              intro v1 W3 ho3 hg3
              have HO3 := Lib.hid ho3
              have HG3 : Hid (Gr w1 W3) := HG2.out.grown hg3 (fun j hj => (HO2.out.lt j hj).1)
              have HC3 : Hid (∀ j u, [Value.string k, .int .i64 (a : Int)][j]? = some u → World.cell? W3 ((⟨V.heap.size, 0, none⟩ : Addr).add j) = some u) := fun j u hj => hg3.cell (HC2.out j u hj) (fun e => by rw [Addr.add_lit] at e; injection e with e; simp only at e; have := HsV.out _ rfl; unfold World.size0 at this; omega)
              clear ho3 hg3 HC2
              refine hK.out (Act.put _ (some 100) v1) _ (HG3.out.keep hd1) (fun _ => ?_)
              clear hK K
              simp only [Act.put, List.setIfInBounds_toArray, List.set_cons_zero, List.set_cons_succ]
              clear hHeld
              refine stepC 13 (by kernel_rfl) rfl (fun K hK => ?_)
              refine step_append_at (by rfl) _ _ 36 (by rfl) w1.heap.size 61 i0 (.agg #[.string ⟨#[]⟩, .int .i64 0]) 2 24 Tryd.underlying36 hi0 hz0 hz1 hz2 rfl (by decide) v1 (0 + A.length) ([] ++ A.flatMap tmf) (by rfl) HO3.out ⟨V.heap.size, 0, none⟩ 1 1 [.string k, .int .i64 (a : Int)] (by rfl) rfl HC3.out (by intro u hu; simp at hu; rcases hu with rfl | rfl <;> rfl) (by have := HLen.out; unfold maxLen; omega) (by have := HLen.out; omega) HG3.out.size ?_
              intro v2 W4 ho4 hg4 hat4
              have HO4 := Lib.hid ho4
              have HG4 : Hid (Gr w1 W4) := HG3.out.grown hg4 (fun j hj => (HO3.out.lt j hj).1)
              clear ho4 hg4 hat4
              refine hK.out (Act.put _ (some 105) v2) _ (HG4.out.keep hd1) (fun _ => ?_)
              clear hK K
              simp only [Act.put, List.setIfInBounds_toArray, List.set_cons_zero, List.set_cons_succ]
              refine stepC 20 (by kernel_rfl) rfl (fun K hK => ?_)
              refine step_append_row (by rfl) _ _ 36 (by rfl) w1.heap.size 61 i0 (.agg #[.string ⟨#[]⟩, .int .i64 0]) 2 24 Tryd.underlying36 hi0 hz0 hz1 hz2 rfl (by decide) v2 (0 + A.length + 1) ([] ++ A.flatMap tmf ++ [.string k, .int .i64 (a : Int)]) (by rfl) HO4.out tmf_len D (highAd (some ⟨b, off, none⟩) cap1 A.length) (cap1 - A.length) (by rfl) HRows.out.2.2 (HRows.out.2.1.gr HG4.out) (tmf_flat_one D) (by have := HLen.out; unfold maxLen; omega) (by have := HLen.out; omega) HG4.out.size ?_
              intro v3 W5 ho5 hg5
              have HG5 : Hid (Gr w1 W5) := HG4.out.grown hg5 (fun j hj => (HO4.out.lt j hj).1)
              have HO5 : Hid (W5.ownsRow w1.heap.size 61 2 v3 (A ++ (k, a) :: D).length ((A ++ (k, a) :: D).flatMap tmf)) := by
                show W5.ownsRow _ _ _ _ _ _
                have e1 : (A ++ (k, a) :: D).length = 0 + A.length + 1 + D.length := by simp; omega
                have e2 : (A ++ (k, a) :: D).flatMap tmf = [] ++ A.flatMap tmf ++ [.string k, .int .i64 (a : Int)] ++ D.flatMap tmf := by simp [List.flatMap_append, tmf]
                rw [e1, e2]; exact ho5
              clear ho5 hg5
              refine hK.out (Act.put _ (some 112) v3) _ (HG5.out.keep hd1) (fun hHeld => ?_)
              clear hK K
              simp only [Act.put, List.setIfInBounds_toArray, List.set_cons_zero, List.set_cons_succ]
              refine takeW 21 113 (v := ?_) rfl rfl (by decide) (by kernel_rfl) (by kernel_rfl) (by kernel_rfl) (fun _ _ _ h => h) (by rfl) ?_ (fun _ => hHeld) ?_
              rotate_left
              · (intro w; (try intro hSw); (try dsimp only at hSw); go_simp; try with_reducible rfl)
              simp only [Act.put, List.setIfInBounds_toArray, List.set_cons_zero, List.set_cons_succ]
              refine takeW 22 114 (v := ?_) rfl rfl (by decide) (by kernel_rfl) (by kernel_rfl) (by kernel_rfl) (fun _ _ _ h => h) (by rfl) ?_ (fun _ => hHeld) ?_
              rotate_left
              · (intro w; (try intro hSw); (try dsimp only at hSw); go_simp; try with_reducible rfl)
              simp only [Act.put, List.setIfInBounds_toArray, List.set_cons_zero, List.set_cons_succ]
              clear hHeld
              obtain ⟨p1, q1, hv3⟩ := own_slice HO5.out
              rw [hv3] at HO5 ⊢
              have HF := Lib.hid (HR1.out.trans (HH.out.laid HG5.out HO5.out))
              have c5 := HG5.out.keep hd1
              have f5 := (HH.out.gr HG5.out).f1
              have l5 := (HH.out.gr HG5.out).lt
              generalize (A ++ (k, a) :: D).length = nn at *
              refine stepS (by kernel_rfl) rfl (by kernel_rfl) (fun K hK => ?_)
              go_simp
              refine hK.out _ _ ?_
              clear hK K
              refine doneL (by kernel_rfl) ?_ _
              go_wp2
              go_ret
              exact ⟨rfl, by rw [HIn.out]; exact HF.out⟩
end Go.Proofs.YtmgiiofjlgchfaaDoor
