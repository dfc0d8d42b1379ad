/- Parts of these proofs, laid together. -/
import Derived.Test.YthfbpilfdfploaaGI
namespace Go.Proofs.Ythfbpilfdfploaa
open Go.RowKit

def NoL (pv : Value) (w : World) : Prop := pv = .pointer none ∨ ∃ g, pv = .pointer (some ⟨g, 0, none⟩) ∧ w.cell? ⟨g, 2, none⟩ = some (.int .i64 0)
theorem NoL.gr {pv : Value} {w w' : World} (h : NoL pv w) (g : Gr w w') : NoL pv w' := by
  rcases h with h | ⟨b, e, h⟩
  · exact Or.inl h
  · exact Or.inr ⟨b, e, g.keep h⟩
theorem no_made {pv : Value} {w : World} (h : NoL pv w) : Calls Try.prog 19 #[pv] w fun e w' => e = .returned (.bool false) ∧ w' = w := by
  rcases h with rfl | ⟨g, rfl, h⟩
  · exact made_none w
  · have := made_any g 0 w h
    rwa [decide_eq_true rfl] at this
set_option maxHeartbeats 1000000 in
theorem no_waiting {pv : Value} {w : World} (h : NoL pv w) : Calls Try.prog 10 #[pv] w fun e w' => e = .returned (.int .i64 0) ∧ w' = w := by
  have HM := Lib.hid (no_made h)
  clear h
  go_enter Try.func10, Try.ntmps10
  go_wp2_with fail
  refine HM.out.mono ?_
  rintro e1 w1 ⟨rfl, hw1⟩; obtain rfl := hw1.symm
  go_wp2
  go_ret
  exact ⟨rfl, rfl⟩
set_option maxHeartbeats 1000000 in
theorem no_peer {pv : Value} {w : World} (h : NoL pv w) : Calls Try.prog 11 #[pv] w fun e w' => e = .returned (.int .i64 0) ∧ w' = w := by
  have HM := Lib.hid (no_made h)
  clear h
  go_enter Try.func11, Try.ntmps11
  go_wp2_with fail
  refine HM.out.mono ?_
  rintro e1 w1 ⟨rfl, hw1⟩; obtain rfl := hw1.symm
  go_wp2
  go_ret
  exact ⟨rfl, rfl⟩
set_option maxHeartbeats 1000000 in
theorem no_tick {pv : Value} {w : World} (h : NoL pv w) (now : Int) : Calls Try.prog 12 #[pv, .int .i64 now] w fun e w' => e = .returned (.slice none 0 0) ∧ w' = w := by
  have HM := Lib.hid (no_made h)
  clear h
  go_enter Try.func12, Try.ntmps12
  go_wp2_with fail
  refine HM.out.mono ?_
  rintro e1 w1 ⟨rfl, hw1⟩; obtain rfl := hw1.symm
  go_wp2
  go_ret
  exact ⟨rfl, rfl⟩
set_option maxHeartbeats 1000000 in
theorem no_send {pv : Value} {w : World} (h : NoL pv w) (now : Int) (v : Value) : Calls Try.prog 7 #[pv, .int .i64 now, v] w fun e w' => e = .returned (.int .i64 1) ∧ w' = w := by
  have HM := Lib.hid (no_made h)
  clear h
  go_enter Try.func7, Try.ntmps7
  go_wp2_with fail
  refine HM.out.mono ?_
  rintro e1 w1 ⟨rfl, hw1⟩; obtain rfl := hw1.symm
  go_wp2
  go_ret
  exact ⟨rfl, rfl⟩
set_option maxHeartbeats 4000000 in
set_option maxRecDepth 100000 in
theorem no_waits {pv : Value} {w : World} (h : NoL pv w) (k0 r0 n0 : Int) (ll : Nat) (ax : Option Addr) (cx : Nat) (s0 : ByteArray) (y0 : Int) : Calls Try.prog 9 #[pv, .agg #[.int .i64 k0, .int .i64 r0, .int .i64 n0, .slice ax ll cx, .string s0, .int .i64 y0]] w fun e w' => e = .returned (.bool false) ∧ Gr w w' := by
  have HM : Hid (∀ w', Gr w w' → Calls Try.prog 19 #[pv] w' fun e w2 => e = .returned (.bool false) ∧ w2 = w') := fun w' g => no_made (h.gr g)
  clear h
  go_enter Try.func9, Try.ntmps9
  go_wp2_with fail
  refine wp_region_held_drew (S := (fun w' => Gr w w')) (by kernel_rfl) (by exact (by repeat(first|exact Gr.r _|refine Gr.a ?_|refine Gr.d ?_|refine Gr.t ?_ (by assumption)))) (fun hHeld => ?_)
  refine ty 0 5 hHeld ?_
  refine wpAnyH_ready (rs := [1]) (by kernel_rfl) (by simp) (AllReadyH.cons rfl (fun K hK => ?_) AllReadyH.nil)
  go_simp
  (go_at_call 19; refine (HM.out _ hHeld).mono ?_; rintro e wn ⟨rfl, hwn⟩; obtain rfl := hwn.symm)
  (try go_wp2_with fail)
  refine hK.out _ _ (by exact (by repeat(first|exact Gr.r _|refine Gr.a ?_|refine Gr.d ?_|refine Gr.t ?_ (by assumption)))) (fun hHeldN => ?_)
  clear hHeld hK K
  have hHeld := hHeldN
  clear hHeldN
  refine ty 2 7 hHeld ?_
  refine tn 3 8 hHeld ?_
  refine tn 4 9 hHeld ?_
  refine tn 5 10 hHeld ?_
  refine tn 6 11 hHeld ?_
  refine tn 7 12 hHeld ?_
  refine tn 8 13 hHeld ?_
  refine tn 9 14 hHeld ?_
  refine ty 10 15 hHeld ?_
  refine ty 11 4 hHeld ?_
  refine wpAnyH_done (by kernel_rfl) ?_ _
  go_wp2
  go_ret
  exact ⟨rfl, hHeld⟩
set_option maxHeartbeats 4000000 in
set_option maxRecDepth 100000 in
theorem no_take {pv : Value} {w : World} (h : NoL pv w) (ff ft fe fs fa fc k5 r5 n5 : Int) (lf : Nat) (ay : Option Addr) (cy : Nat) (s5 : ByteArray) (y5 : Int) (now : Int) : Calls Try.prog 6 #[pv, .agg #[.int .i64 ff, .int .i64 ft, .int .i64 fe, .int .i64 fs, .int .i64 fa, .int .i64 fc, .int .i64 k5, .int .i64 r5, .int .i64 n5, .slice ay lf cy, .string s5, .int .i64 y5], .int .i64 now] w fun e w' => e = .returned (.tuple #[.agg #[.int .i64 0, .int .i64 0, .int .i64 0, .slice none 0 0, .string ⟨#[]⟩, .int .i64 0], .bool false, .int .i64 1]) ∧ Gr w w' := by
  have HM : Hid (∀ w', Gr w w' → Calls Try.prog 19 #[pv] w' fun e w2 => e = .returned (.bool false) ∧ w2 = w') := fun w' g => no_made (h.gr g)
  clear h
  go_enter Try.func6, Try.ntmps6
  go_wp2_with fail
  refine (HM.out _ ?_).mono ?_
  · exact (by repeat(first|exact Gr.r _|refine Gr.a ?_|refine Gr.d ?_|refine Gr.t ?_ (by assumption)))
  rintro e1 w1 ⟨rfl, hw1⟩; obtain rfl := hw1.symm
  go_wp2
  refine bodyPost_ret (v := .tuple #[.agg #[.int .i64 0, .int .i64 0, .int .i64 0, .slice none 0 0, .string ⟨#[]⟩, .int .i64 0], .bool false, .int .i64 1]) (by simp [results, Try.results6, go_sem, *]) rfl ?_
  exact ⟨rfl, (by (with_reducible repeat' (first | exact Gr.refl _ | refine Gr.set ?_ _ ?_ _ | refine Gr.alloc ?_ | refine Gr.drew ?_ | refine Gr.trans ?_ (by assumption))) <;> (first | (simp; done) | (simp; omega) | omega))⟩
end Go.Proofs.Ythfbpilfdfploaa
