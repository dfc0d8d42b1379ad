
/- The statements' own: filled. -/
import Derived.Test.YtmgiiofjlgchfaaDoorWhX
namespace Go.Proofs.YtmgiiofjlgchfaaDoor
open Go.RowKit Go.Maps Go.Sort
open Wh (Tm Sl ks hasK atK del ins put dig whl Inv tlt Up trn upto past)

def fillL (t : Nat) (T : List Ac) : List Tm := T.foldl (fun L x => setL t L x.s (ltr t x.a)) []
theorem fillL_snoc (t : Nat) (T : List Ac) (x : Ac) : fillL t (T ++ [x]) = setL t (fillL t T) x.s (ltr t x.a) := by simp [fillL, List.foldl_append]
theorem take_snoc {α : Type} (T : List α) (k : Nat) (h : k < T.length) : T.take (k + 1) = T.take k ++ [T[k]] := by rw [List.take_succ_eq_append_getElem h]
def FiR (w w' : World) (t : Nat) (L : List Tm) (e : Ending) : Prop := ∃ b m S V, e = .returned (ptr b) ∧ Wl w w' b m t L S V
set_option maxHeartbeats 8000000 in
set_option maxRecDepth 100000 in
theorem filled_any {t : Nat} (T : List Ac) (ad : Option Addr) (cap : Nat) (w : World) (ht : t ≤ 1000000000) (hT : RowAt acf w ad T) (hn : T.length ≤ 9223372036854775807) :
    Calls Tryd.prog 25 #[.int .i64 (t : Int), .slice ad T.length cap] w fun e w' => FiR w w' t (fillL t T) e := by
  have HN := Lib.hid (new_yes (t := t) w ht)
  have HLt : Hid (∀ (s : Int) (w' : World), Calls Tryd.prog 12 #[.int .i64 (t : Int), .int .i64 s] w' fun e w2 => e = .returned (.int .i64 (ltr t s)) ∧ w2 = w') := fun s w' => later_any t s w' (by omega) (by omega)
  go_enter Tryd.func25, Tryd.ntmps25
  go_wp2_with fail
  refine HN.out.mono ?_
  rintro e w1 ⟨rfl, hw, hg⟩
  have HW1 := Lib.hid (Wl.new ht hw hg)
  obtain ⟨b, hb⟩ : ∃ b, b = w.heap.size + 1 := ⟨_, rfl⟩
  rw [← hb] at HW1 ⊢
  obtain ⟨m, hm⟩ : ∃ m, m = w.heap.size := ⟨_, rfl⟩
  rw [← hm] at HW1
  clear hw hg HN hb hm
  go_wp2
  go_loopw [7] (fun i wr => ∃ (k : Nat) (S1 : Sl) (V1 : Vl), k ≤ T.length ∧ i = .int .i64 (k : Int) ∧ Wl w wr b m t (fillL t (T.take k)) S1 V1) (fun i _ => T.length - (intOf i).toNat)
  case atStart => exact ⟨0, S0, V0, Nat.zero_le _, rfl, HW1.out⟩
  case round =>
    obtain ⟨k, S1, V1, hk, rfl, hw⟩ := hrel
    have HW : Hid (Wl w wr b m t (fillL t (T.take k)) S1 V1) := hw
    clear hw HW1
    by_cases hlt : k < T.length
    · have HFl : Hid (fillL t (T.take (k + 1)) = setL t (fillL t (T.take k)) T[k].s (ltr t T[k].a)) := by show _ = _; rw [take_snoc T k hlt, fillL_snoc]
      obtain ⟨x, off, hade, hxb, _, c1, c2⟩ := ac_at hT k hlt
      have HC : Hid (∀ w', Gr w w' → w'.cell? ⟨x, off + k * 3 + 1, none⟩ = some (.string T[k].s) ∧ w'.cell? ⟨x, off + k * 3 + 2, none⟩ = some (.int .i64 T[k].a)) := fun w' g => ⟨g.keep c1, g.keep c2⟩
      have HSet : Hid (∀ w', Wl w w' b m t (fillL t (T.take k)) S1 V1 → Calls Tryd.prog 11 #[ptr b, .string T[k].s, .int .i64 (ltr t T[k].a)] w' fun e w2 => e = .returned (.int .i64 (setE t (fillL t (T.take k)) T[k].s (ltr t T[k].a))) ∧ ∃ S2 V2, Wl w w2 b m t (fillL t (T.take (k + 1))) S2 V2) := by
        intro w' hw'
        refine (set_all hw'.wa hw'.iv T[k].s (ltr t T[k].a)).mono ?_
        rintro e w2 ⟨rfl, S2, V2, q1, q2, q3⟩
        rw [← HFl.out] at q1 q2
        exact ⟨rfl, S2, V2, hw'.tn q3 q1 q2⟩
      clear c1 c2 HFl
      subst hade
      obtain ⟨L2, eL2⟩ : ∃ L2, L2 = fillL t (T.take (k + 1)) := ⟨_, rfl⟩
      rw [← eL2] at HSet
      have HE := Lib.hid eL2
      clear eL2
      generalize fillL t (T.take k) = L1 at *
      have HLk := Lib.hid (HLt.out T[k].a)
      generalize setE t L1 T[k].s (ltr t T[k].a) = se at *
      generalize T[k].s = ks1 at *
      generalize ltr t T[k].a = la at *
      generalize T[k].a = ka at *
      go_upto_region 7 with fail
      refine wp_region_held_drew (S := (fun w' => w'.cell? ⟨x, off + k * 3 + 1, none⟩ = some (.string ks1) ∧ w'.cell? ⟨x, off + k * 3 + 2, none⟩ = some (.int .i64 ka))) (by kernel_rfl) (by first | with_reducible exact hHeld | with_reducible exact HC.out _ HW.out.gr.drew | with_reducible exact HC.out _ hw2.gr) (fun hHeld => ?_)
      refine take_yes 0 25 (v := ?_) rfl rfl (by kernel_rfl) (by kernel_rfl) (by kernel_rfl) (fun _ _ _ h => h) (by rfl) ?_ hHeld ?_
      rotate_left
      · (intro w hSw; (try dsimp only at hSw); go_simp; try with_reducible rfl)
      simp only [Act.put, List.setIfInBounds_toArray, List.set_cons_zero, List.set_cons_succ]
      refine take_yes 1 26 (v := ?_) rfl rfl (by kernel_rfl) (by kernel_rfl) (by kernel_rfl) (fun _ _ _ h => h) (by rfl) ?_ hHeld ?_
      rotate_left
      · (intro w hSw; (try dsimp only at hSw); go_simp; try with_reducible rfl)
      simp only [Act.put, List.setIfInBounds_toArray, List.set_cons_zero, List.set_cons_succ]
      refine take_yes 2 27 (v := ?_) rfl rfl (by kernel_rfl) (by kernel_rfl) (by kernel_rfl) (fun _ _ _ h => h) (by rfl) ?_ hHeld ?_
      rotate_left
      · (intro w hSw; (try dsimp only at hSw); go_simp; try with_reducible rfl)
      simp only [Act.put, List.setIfInBounds_toArray, List.set_cons_zero, List.set_cons_succ]
      refine take_yes 3 28 (v := ?_) rfl rfl (by kernel_rfl) (by kernel_rfl) (by kernel_rfl) (fun _ _ _ h => h) (by rfl) ?_ hHeld ?_
      rotate_left
      · (intro w hSw; (try dsimp only at hSw); go_simp; try with_reducible rfl)
      simp only [Act.put, List.setIfInBounds_toArray, List.set_cons_zero, List.set_cons_succ]
      refine take_yes 4 29 (v := ?_) rfl rfl (by kernel_rfl) (by kernel_rfl) (by kernel_rfl) (fun _ _ _ h => h) (by rfl) ?_ hHeld ?_
      rotate_left
      · (intro w hSw; (try dsimp only at hSw); go_simp; try with_reducible rfl)
      simp only [Act.put, List.setIfInBounds_toArray, List.set_cons_zero, List.set_cons_succ]
      refine take_yes 5 30 (v := ?_) rfl rfl (by kernel_rfl) (by kernel_rfl) (by kernel_rfl) (fun _ _ _ h => h) (by rfl) ?_ hHeld ?_
      rotate_left
      · (intro w hSw; (try dsimp only at hSw); go_simp; try with_reducible rfl)
      simp only [Act.put, List.setIfInBounds_toArray, List.set_cons_zero, List.set_cons_succ]
      refine take_yes 6 31 (v := ?_) rfl rfl (by kernel_rfl) (by kernel_rfl) (by kernel_rfl) (fun _ _ _ h => h) (by rfl) ?_ hHeld ?_
      rotate_left
      · (intro w hSw; (try dsimp only at hSw); go_simp; try with_reducible rfl)
      simp only [Act.put, List.setIfInBounds_toArray, List.set_cons_zero, List.set_cons_succ]
      refine take_yes 7 32 (v := ?_) rfl rfl (by kernel_rfl) (by kernel_rfl) (by kernel_rfl) (fun _ _ _ h => h) (by rfl) ?_ hHeld ?_
      rotate_left
      · (intro w hSw; (try dsimp only at hSw); go_simp; try with_reducible rfl)
      simp only [Act.put, List.setIfInBounds_toArray, List.set_cons_zero, List.set_cons_succ]
      refine take_yes 8 33 (v := ?_) rfl rfl (by kernel_rfl) (by kernel_rfl) (by kernel_rfl) (fun _ _ _ h => h) (by rfl) ?_ hHeld ?_
      rotate_left
      · (intro w hSw; (try dsimp only at hSw); go_simp; try with_reducible rfl)
      simp only [Act.put, List.setIfInBounds_toArray, List.set_cons_zero, List.set_cons_succ]
      refine take_yes 9 34 (v := ?_) rfl rfl (by kernel_rfl) (by kernel_rfl) (by kernel_rfl) (fun _ _ _ h => h) (by rfl) ?_ hHeld ?_
      rotate_left
      · (intro w hSw; (try dsimp only at hSw); go_simp; try with_reducible rfl)
      simp only [Act.put, List.setIfInBounds_toArray, List.set_cons_zero, List.set_cons_succ]
      refine take_yes 10 35 (v := ?_) rfl rfl (by kernel_rfl) (by kernel_rfl) (by kernel_rfl) (fun _ _ _ h => h) (by rfl) ?_ hHeld ?_
      rotate_left
      · (intro w hSw; (try dsimp only at hSw); go_simp; try with_reducible rfl)
      simp only [Act.put, List.setIfInBounds_toArray, List.set_cons_zero, List.set_cons_succ]
      refine take_yes 11 36 (v := ?_) rfl rfl (by kernel_rfl) (by kernel_rfl) (by kernel_rfl) (fun _ _ _ h => h) (by rfl) ?_ hHeld ?_
      rotate_left
      · (intro w hSw; (try dsimp only at hSw); go_simp; try with_reducible rfl)
      simp only [Act.put, List.setIfInBounds_toArray, List.set_cons_zero, List.set_cons_succ]
      refine wpAnyH_ready (rs := [12]) (by kernel_rfl) (by simp) (AllReadyH.cons rfl (fun K hK => ?_) AllReadyH.nil)
      go_simp
      (go_at_call 12; refine (HLk.out _).mono ?_; rintro e w' ⟨rfl, hw⟩; obtain rfl := hw.symm; clear hw)
      (try go_wp2_with fail)
      refine hK.out _ _ (by first | with_reducible exact hHeld | with_reducible exact HC.out _ HW.out.gr.drew | with_reducible exact HC.out _ hw2.gr) (fun hHeldN => ?_)
      clear hHeld hK K
      have hHeld := hHeldN
      clear hHeldN
      refine wpAnyH_ready (rs := [13]) (by kernel_rfl) (by simp) (AllReadyH.cons rfl (fun K hK => ?_) AllReadyH.nil)
      go_simp
      (go_at_call 11; refine (HSet.out _ (HW.out.grow (Gr.refl _).drew)).mono ?_; rintro e w2 ⟨rfl, S2, V2, hw2⟩)
      (try go_wp2_with fail)
      refine hK.out _ _ (by first | with_reducible exact hHeld | with_reducible exact HC.out _ HW.out.gr.drew | with_reducible exact HC.out _ hw2.gr) (fun hHeldN => ?_)
      clear hHeld hK K
      have hHeld := hHeldN
      clear hHeldN
      refine wpAnyH_done (by kernel_rfl) ?_ _
      have HW2 := Lib.hid hw2
      clear hw2 hHeld
      go_wp2
      go_roundw
      case rel => exact ⟨k + 1, S2, V2, by omega, by simp, by rw [← HE.out]; exact HW2.out⟩
      case measure => simp [intOf]; omega
    · obtain rfl : k = T.length := by omega
      have HF : Hid (FiR w wr t (fillL t T) (.returned (ptr b))) := ⟨b, m, S1, V1, rfl, by have := HW.out; rw [List.take_length] at this; exact this⟩
      go_wp2
      go_ret
      exact HF.out
end Go.Proofs.YtmgiiofjlgchfaaDoor
