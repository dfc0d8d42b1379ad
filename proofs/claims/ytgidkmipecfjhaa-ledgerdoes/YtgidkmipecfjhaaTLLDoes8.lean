/- What the proof is made of, part 8. -/
import Derived.Test.YtgidkmipecfjhaaTLLDoes7
import Derived.Deep.DeepCutAuto
namespace Go.Proofs.Ytgidkmipecfjhaa
open Go.RowKit
open Led (Acc Mk)
structure TwoAt (w : World) (g : Nat) (a b : Value) : Prop where
  c0 : w.cell? ⟨g, 0, none⟩ = some a
  c1 : w.cell? ⟨g, 1, none⟩ = some b
  f0 : w.frozen? ⟨g, 0, none⟩ = false
  f1 : w.frozen? ⟨g, 1, none⟩ = false
  lt : g < w.heap.size
theorem TwoAt.gr {w w' : World} {g : Nat} {a b : Value} (h : TwoAt w g a b) (k : Gr w w') : TwoAt w' g a b :=
  ⟨k.keep h.c0, k.keep h.c1, k.keepF h.lt h.f0, k.keepF h.lt h.f1, Nat.lt_of_lt_of_le h.lt k.size⟩
theorem TwoAt.new (w : World) (a b : Value) (t : TypeId) (g : Nat) (hg : g = w.heap.size) : TwoAt (w.alloc (.cells #[a, b] t)) g a b := by
  subst hg
  exact ⟨by simp, by simp, by simp [go_sem], by simp [go_sem], by simp⟩
theorem TwoAt.set2 {w : World} {g : Nat} {a b : Value} (h : TwoAt w g a b) (x y : Value) : TwoAt ((w.setCell ⟨g, 0, none⟩ x).setCell ⟨g, 1, none⟩ y) g x y := by
  obtain ⟨h0, h1, f0, f1, hl⟩ := h
  exact ⟨by simp [go_sem, *], by simp [go_sem, *], by simp [go_sem, *], by simp [go_sem, *], by simpa using hl⟩
theorem TwoAt.far {w : World} {g : Nat} {a b : Value} (h : TwoAt w g a b) (p : Addr) (u : Value) (hp : p.block ≠ g) : TwoAt (w.setCell p u) g a b := by
  obtain ⟨h0, h1, f0, f1, hl⟩ := h
  refine ⟨?_, ?_, ?_, ?_, by simpa using hl⟩
  · rw [World.cell?_setCell_far _ _ _ _ (by simpa using hp)]; exact h0
  · rw [World.cell?_setCell_far _ _ _ _ (by simpa using hp)]; exact h1
  · rw [World.frozen?_setCell]; exact f0
  · rw [World.frozen?_setCell]; exact f1
theorem own_gr2 {w w' : World} {base : Nat} {e : TypeId} {size n : Nat} {v : Value} {xs : List Value} (h : w.ownsRow base e size v n xs) (g : Gr w w') : w'.ownsRow base e size v n xs := h.kept g.grownBy (own_or v)
theorem own_form {w : World} {base : Nat} {e : TypeId} {size n : Nat} {v : Value} {xs : List Value} (h : w.ownsRow base e size v n xs) (hn : 0 < n) : ∃ g cap, v = .slice (some ⟨g, 0, none⟩) n cap ∧ base ≤ g ∧ g < w.heap.size ∧ n ≤ cap ∧ cap ≤ 9223372036854775807 := by
  have hlt := h.lt
  obtain ⟨_, ⟨rfl, h0⟩ | ⟨g, cap, cur, rfl, hx⟩⟩ := h
  · omega
  · have hm : cap ≤ 9223372036854775807 := by have := hx.2.2.2.1; unfold maxLen at this; omega
    exact ⟨g, cap, rfl, (hlt g rfl).1, (hlt g rfl).2, hx.2.2.1, hm⟩
theorem own_apart {w : World} {base base' : Nat} {e e' : TypeId} {size size' n n' : Nat} {v v' : Value} {xs xs' : List Value} (h : w.ownsRow base e size v n xs) (h' : w.ownsRow base' e' size' v' n' xs') (he : e ≠ e') {g : Nat} (hg : v.ownBlock = some g) : v'.ownBlock ≠ some g := by
  intro hg'
  obtain ⟨_, ⟨rfl, _⟩ | ⟨g1, cap1, cur1, rfl, _, hh1, _⟩⟩ := h
  · simp [Value.ownBlock] at hg
  · obtain ⟨_, ⟨rfl, _⟩ | ⟨g2, cap2, cur2, rfl, _, hh2, _⟩⟩ := h'
    · simp [Value.ownBlock] at hg'
    · simp [Value.ownBlock] at hg hg'
      subst hg hg'
      rw [hh1] at hh2
      cases hh2
      exact he rfl
theorem own_same {w : World} {base : Nat} {e : TypeId} {size n cap g : Nat} {xs : List Value} (h : w.ownsRow base e size (.slice (some ⟨g, 0, none⟩) n cap) n xs) (j : Nat) (u : Value) (hu : xs[j]? = some u) : (w.setCell ⟨g, j, none⟩ u).ownsRow base e size (.slice (some ⟨g, 0, none⟩) n cap) n xs := by
  have := (h.stored j u).1
  have e : xs.set j u = xs := by
    obtain ⟨hj, hv⟩ := List.getElem?_eq_some_iff.1 hu
    rw [← hv]; exact List.set_getElem_self hj
  rwa [e] at this
theorem own_far {w : World} {base : Nat} {e : TypeId} {size n : Nat} {v : Value} {xs : List Value} (h : w.ownsRow base e size v n xs) (p : Addr) (u : Value) (hp : v.ownBlock ≠ some p.block) : (w.setCell p u).ownsRow base e size v n xs :=
  h.kept (row := some p.block) ⟨rfl, rfl, rfl, by simp [World.setCell], fun k _ hk => Below.heap_setCell _ _ _ _ (fun e => hk (by rw [e]))⟩ (Or.inr hp)
structure CopyInv (w : World) (A : List Acc) (M : List Mk) (v1 v2 : Value) (wr : World) : Prop where
  bx : TwoAt wr w.heap.size v1 v2
  rs : TwoAt wr (w.heap.size + 1) (.slice none 0 0) (.slice none 0 0)
  r1 : wr.ownsRow (w.heap.size + 2) 31 7 v1 A.length (A.flatMap accC)
  r2 : wr.ownsRow (w.heap.size + 2) 64 5 v2 M.length (M.flatMap mkC)
  g : Gr w wr
theorem CopyInv.gr {w : World} {A : List Acc} {M : List Mk} {v1 v2 : Value} {a b : World} (h : CopyInv w A M v1 v2 a) (k : Gr a b) : CopyInv w A M v1 v2 b :=
  ⟨h.bx.gr k, h.rs.gr k, own_gr2 h.r1 k, own_gr2 h.r2 k, h.g.trans k⟩
theorem CopyInv.set1 {w : World} {A : List Acc} {M : List Mk} {g cap : Nat} {v2 : Value} {a : World} (h : CopyInv w A M (.slice (some ⟨g, 0, none⟩) A.length cap) v2 a) (j : Nat) (u : Value) (hu : (A.flatMap accC)[j]? = some u) :
    CopyInv w A M (.slice (some ⟨g, 0, none⟩) A.length cap) v2 (a.setCell ⟨g, j, none⟩ u) := by
  have hg := (h.r1.lt g rfl).1
  exact ⟨h.bx.far _ _ (by simp; omega), h.rs.far _ _ (by simp; omega), own_same h.r1 j u hu, own_far h.r2 _ _ (own_apart h.r1 h.r2 (by decide) rfl), h.g.set _ (by simp; omega) _⟩
theorem CopyInv.set2 {w : World} {A : List Acc} {M : List Mk} {g cap : Nat} {v1 : Value} {a : World} (h : CopyInv w A M v1 (.slice (some ⟨g, 0, none⟩) M.length cap) a) (j : Nat) (u : Value) (hu : (M.flatMap mkC)[j]? = some u) :
    CopyInv w A M v1 (.slice (some ⟨g, 0, none⟩) M.length cap) (a.setCell ⟨g, j, none⟩ u) := by
  have hg := (h.r2.lt g rfl).1
  exact ⟨h.bx.far _ _ (by simp; omega), h.rs.far _ _ (by simp; omega), own_far h.r1 _ _ (own_apart h.r2 h.r1 (by decide) rfl), own_same h.r2 j u hu, h.g.set _ (by simp; omega) _⟩
set_option maxHeartbeats 8000000 in
set_option maxRecDepth 100000 in
theorem copied_any (A : List Acc) (M : List Mk) (adA : Option Addr) (capA : Nat) (adM : Option Addr) (capM : Nat) (w : World) (hA : AccsAt w adA A) (hM : MksAt w adM M) (hnA : A.length ≤ 1000) (hnM : M.length ≤ 1000) (hsA : ∀ x ∈ A, x.s.size ≤ 1000) (hsM : ∀ m ∈ M, m.key.size ≤ 1000 ∧ m.t.size ≤ 1000) :
    Calls Try.prog 51 #[.agg #[.slice adA A.length capA, .slice adM M.length capM]] w fun e w' => ∃ v1 v2, e = .returned (.agg #[v1, v2]) ∧ w'.ownsRow w.heap.size 31 7 v1 A.length (A.flatMap accC) ∧ w'.ownsRow w.heap.size 64 5 v2 M.length (M.flatMap mkC) ∧ Gr w w' := by
  have HA : Hid (∀ w', Gr w w' → Calls Try.prog 78 #[.slice adA A.length capA] w' fun e w2 => ∃ a c, e = .returned (.slice a A.length c) ∧ w2.ownsRow w'.heap.size 31 7 (.slice a A.length c) A.length (A.flatMap accC) ∧ Gr w' w2) := fun w' g => (cloneA_any A adA capA w' (hA.gr g) (by omega)).mono (by
    rintro e w2 ⟨v, rfl, h, g⟩
    obtain ⟨a, c, rfl, _⟩ := own_row h
    exact ⟨a, c, rfl, h, g⟩)
  have HM : Hid (∀ w', Gr w w' → Calls Try.prog 79 #[.slice adM M.length capM] w' fun e w2 => ∃ a c, e = .returned (.slice a M.length c) ∧ w2.ownsRow w'.heap.size 64 5 (.slice a M.length c) M.length (M.flatMap mkC) ∧ Gr w' w2) := fun w' g => (cloneM_any M adM capM w' (hM.gr g) (by omega)).mono (by
    rintro e w2 ⟨v, rfl, h, g⟩
    obtain ⟨a, c, rfl, _⟩ := own_row h
    exact ⟨a, c, rfl, h, g⟩)
  have HCl : Hid (∀ (s : ByteArray) w', s.size ≤ 1000 → Calls Try.prog 31 #[.string s] w' fun e w2 => e = .returned (.string s) ∧ Gr w' w2) := fun s w' h => clone_any s w' (by omega)
  have HsA : Hid (∀ x ∈ A, x.s.size ≤ 1000) := hsA
  have HsM : Hid (∀ m ∈ M, m.key.size ≤ 1000 ∧ m.t.size ≤ 1000) := hsM
  clear hA hM hsA hsM
  go_enter Try.func51, Try.ntmps51
  go_upto_region 1 with fail
  have B0 := (TwoAt.new w (.slice adA A.length capA) (.slice adM M.length capM) 25 _ rfl).gr (Gr.refl _).alloc (w' := (w.alloc (.cells #[.slice adA A.length capA, .slice adM M.length capM] 25)).alloc (.cells #[.slice none 0 0, .slice none 0 0] 25))
  have R0 := TwoAt.new (w.alloc (.cells #[.slice adA A.length capA, .slice adM M.length capM] 25)) (.slice none 0 0) (.slice none 0 0) 25 (w.heap.size + 1) (by simp)
  obtain ⟨W, hW⟩ : ∃ W, W = (w.alloc (.cells #[.slice adA A.length capA, .slice adM M.length capM] 25)).alloc (.cells #[.slice none 0 0, .slice none 0 0] 25) := ⟨_, rfl⟩
  have hWs : W.heap.size = w.heap.size + 2 := by rw [hW]; simp
  have HGW : Hid (Gr w W) := by show Gr _ _; rw [hW]; exact (Gr.refl _).alloc.alloc
  rw [← hW] at B0 R0 ⊢
  have HB0 : Hid (TwoAt W w.heap.size (.slice adA A.length capA) (.slice adM M.length capM)) := B0
  have HR0 : Hid (TwoAt W (w.heap.size + 1) (.slice none 0 0) (.slice none 0 0)) := R0
  clear hW B0 R0
  go_cut [] (fun wx => ∃ v1 v2, CopyInv w A M v1 v2 wx)
  case first =>
    obtain ⟨c0, c1, f0, f1, _⟩ := HB0.out
    have HFin : Hid (∀ v1 v2 wn1 wn2, World.ownsRow wn1 W.drew.heap.size 31 7 v1 A.length (A.flatMap accC) → Gr W.drew wn1 → World.ownsRow wn2 wn1.heap.size 64 5 v2 M.length (M.flatMap mkC) → Gr wn1 wn2 → CopyInv w A M v1 v2 ((wn2.setCell ⟨w.heap.size, 0, none⟩ v1).setCell ⟨w.heap.size, 1, none⟩ v2)) := by
      intro v1 v2 wn1 wn2 r1 g1 r2 g2
      have hs1 := g1.size
      have hsz : W.drew.heap.size = w.heap.size + 2 := hWs
      have r1' := own_gr2 (own_low r1 (by omega : w.heap.size + 2 ≤ W.drew.heap.size)) g2
      have r2' := own_low r2 (by omega : w.heap.size + 2 ≤ wn1.heap.size)
      have n1 : ∀ i, v1.ownBlock ≠ some i ∨ w.heap.size + 2 ≤ i := fun i => by
        by_cases h : v1.ownBlock = some i
        · exact Or.inr (r1'.lt i h).1
        · exact Or.inl h
      have n2 : ∀ i, v2.ownBlock ≠ some i ∨ w.heap.size + 2 ≤ i := fun i => by
        by_cases h : v2.ownBlock = some i
        · exact Or.inr (r2'.lt i h).1
        · exact Or.inl h
      have m1 : v1.ownBlock ≠ some w.heap.size := (n1 w.heap.size).elim (fun h => h) (fun h => absurd h (by omega))
      have m2 : v2.ownBlock ≠ some w.heap.size := (n2 w.heap.size).elim (fun h => h) (fun h => absurd h (by omega))
      have gW : Gr W wn2 := (Gr.refl W).drew.trans (g1.trans g2)
      exact ⟨(HB0.out.gr gW).set2 v1 v2, ((HR0.out.gr gW).far _ _ (by simp)).far _ _ (by simp), own_far (own_far r1' _ _ m1) _ _ m1, own_far (own_far r2' _ _ m2) _ _ m2, ((HGW.out.trans gW).set _ (by simp) _).set _ (by simp) _⟩
    refine wp_region_held_drew (S := (fun w' => Gr w w')) (by kernel_rfl) (by first | with_reducible exact HGW.out.drew | with_reducible assumption | with_reducible exact hHeld.trans hg1 | with_reducible exact hHeld.trans hg2 | with_reducible exact (hHeld.set _ (by simp) _).set _ (by simp) _) (fun hHeld => ?_)
    refine ty 0 5 hHeld ?_
    refine ty 3 8 hHeld ?_
    refine wpAnyH_ready (rs := [1, 4]) (by kernel_rfl) (by simp) (AllReadyH.cons rfl (fun K hK => ?_) (AllReadyH.cons rfl (fun K hK => ?_) AllReadyH.nil))
    · skip
      go_simp
      refine hK.out _ _ (by first | with_reducible exact HGW.out.drew | with_reducible assumption | with_reducible exact hHeld.trans hg1 | with_reducible exact hHeld.trans hg2 | with_reducible exact (hHeld.set _ (by simp) _).set _ (by simp) _) (fun hHeldN => ?_)
      clear hHeld hK K
      have hHeld := hHeldN
      clear hHeldN
      refine wpAnyH_ready (rs := [2, 4]) (by kernel_rfl) (by simp) (AllReadyH.cons rfl (fun K hK => ?_) (AllReadyH.cons rfl (fun K hK => ?_) AllReadyH.nil))
      · skip
        go_simp
        (go_at_call 78; refine (HA.out _ (HGW.out.trans (Gr.refl W).drew)).mono ?_; rintro e wn1 ⟨x1, y1, rfl, hr1, hg1⟩)
        (try go_wp2_with fail)
        refine hK.out _ _ (by first | with_reducible exact HGW.out.drew | with_reducible assumption | with_reducible exact hHeld.trans hg1 | with_reducible exact hHeld.trans hg2 | with_reducible exact (hHeld.set _ (by simp) _).set _ (by simp) _) (fun hHeldN => ?_)
        clear hHeld hK K
        have hHeld := hHeldN
        clear hHeldN
        have c1 : wn1.cell? ⟨w.heap.size, 1, none⟩ = some (.slice adM M.length capM) := hg1.keep (w1 := wn1) (W := W.drew) c1
        refine wpAnyH_ready (rs := [4]) (by kernel_rfl) (by simp) (AllReadyH.cons rfl (fun K hK => ?_) AllReadyH.nil)
        go_simp
        refine hK.out _ _ (by first | with_reducible exact HGW.out.drew | with_reducible assumption | with_reducible exact hHeld.trans hg1 | with_reducible exact hHeld.trans hg2 | with_reducible exact (hHeld.set _ (by simp) _).set _ (by simp) _) (fun hHeldN => ?_)
        clear hHeld hK K
        have hHeld := hHeldN
        clear hHeldN
        refine wpAnyH_ready (rs := [5]) (by kernel_rfl) (by simp) (AllReadyH.cons rfl (fun K hK => ?_) AllReadyH.nil)
        go_simp
        (go_at_call 79; refine (HM.out _ ((HGW.out.trans (Gr.refl W).drew).trans hg1)).mono ?_; rintro e wn2 ⟨x2, y2, rfl, hr2, hg2⟩)
        (try go_wp2_with fail)
        refine hK.out _ _ (by first | with_reducible exact HGW.out.drew | with_reducible assumption | with_reducible exact hHeld.trans hg1 | with_reducible exact hHeld.trans hg2 | with_reducible exact (hHeld.set _ (by simp) _).set _ (by simp) _) (fun hHeldN => ?_)
        clear hHeld hK K
        have hHeld := hHeldN
        clear hHeldN
        refine ty 6 11 hHeld ?_
        have hb := (HB0.out.gr (Gr.refl W).drew).gr (hg1.trans hg2)
        obtain ⟨b0, b1, g0, g1, bl⟩ := hb
        refine wpAnyH_ready (rs := [7]) (by kernel_rfl) (by simp) (AllReadyH.cons rfl (fun K hK => ?_) AllReadyH.nil)
        go_simp
        refine hK.out _ _ (by first | with_reducible exact HGW.out.drew | with_reducible assumption | with_reducible exact hHeld.trans hg1 | with_reducible exact hHeld.trans hg2 | with_reducible exact (hHeld.set _ (by simp) _).set _ (by simp) _) (fun hHeldN => ?_)
        clear hHeld hK K
        have hHeld := hHeldN
        clear hHeldN
        refine wpAnyH_done (by kernel_rfl) ?_ _
        go_wp2_with fail
        go_meet
        exact ⟨_, _, HFin.out _ _ wn1 wn2 hr1 hg1 hr2 hg2⟩
      · skip
        go_simp
        refine hK.out _ _ (by first | with_reducible exact HGW.out.drew | with_reducible assumption | with_reducible exact hHeld.trans hg1 | with_reducible exact hHeld.trans hg2 | with_reducible exact (hHeld.set _ (by simp) _).set _ (by simp) _) (fun hHeldN => ?_)
        clear hHeld hK K
        have hHeld := hHeldN
        clear hHeldN
        refine wpAnyH_ready (rs := [2]) (by kernel_rfl) (by simp) (AllReadyH.cons rfl (fun K hK => ?_) AllReadyH.nil)
        go_simp
        (go_at_call 78; refine (HA.out _ (HGW.out.trans (Gr.refl W).drew)).mono ?_; rintro e wn1 ⟨x1, y1, rfl, hr1, hg1⟩)
        (try go_wp2_with fail)
        refine hK.out _ _ (by first | with_reducible exact HGW.out.drew | with_reducible assumption | with_reducible exact hHeld.trans hg1 | with_reducible exact hHeld.trans hg2 | with_reducible exact (hHeld.set _ (by simp) _).set _ (by simp) _) (fun hHeldN => ?_)
        clear hHeld hK K
        have hHeld := hHeldN
        clear hHeldN
        refine wpAnyH_ready (rs := [5]) (by kernel_rfl) (by simp) (AllReadyH.cons rfl (fun K hK => ?_) AllReadyH.nil)
        go_simp
        (go_at_call 79; refine (HM.out _ ((HGW.out.trans (Gr.refl W).drew).trans hg1)).mono ?_; rintro e wn2 ⟨x2, y2, rfl, hr2, hg2⟩)
        (try go_wp2_with fail)
        refine hK.out _ _ (by first | with_reducible exact HGW.out.drew | with_reducible assumption | with_reducible exact hHeld.trans hg1 | with_reducible exact hHeld.trans hg2 | with_reducible exact (hHeld.set _ (by simp) _).set _ (by simp) _) (fun hHeldN => ?_)
        clear hHeld hK K
        have hHeld := hHeldN
        clear hHeldN
        refine ty 6 11 hHeld ?_
        have hb := (HB0.out.gr (Gr.refl W).drew).gr (hg1.trans hg2)
        obtain ⟨b0, b1, g0, g1, bl⟩ := hb
        refine wpAnyH_ready (rs := [7]) (by kernel_rfl) (by simp) (AllReadyH.cons rfl (fun K hK => ?_) AllReadyH.nil)
        go_simp
        refine hK.out _ _ (by first | with_reducible exact HGW.out.drew | with_reducible assumption | with_reducible exact hHeld.trans hg1 | with_reducible exact hHeld.trans hg2 | with_reducible exact (hHeld.set _ (by simp) _).set _ (by simp) _) (fun hHeldN => ?_)
        clear hHeld hK K
        have hHeld := hHeldN
        clear hHeldN
        refine wpAnyH_done (by kernel_rfl) ?_ _
        go_wp2_with fail
        go_meet
        exact ⟨_, _, HFin.out _ _ wn1 wn2 hr1 hg1 hr2 hg2⟩
    · skip
      go_simp
      refine hK.out _ _ (by first | with_reducible exact HGW.out.drew | with_reducible assumption | with_reducible exact hHeld.trans hg1 | with_reducible exact hHeld.trans hg2 | with_reducible exact (hHeld.set _ (by simp) _).set _ (by simp) _) (fun hHeldN => ?_)
      clear hHeld hK K
      have hHeld := hHeldN
      clear hHeldN
      refine wpAnyH_ready (rs := [1]) (by kernel_rfl) (by simp) (AllReadyH.cons rfl (fun K hK => ?_) AllReadyH.nil)
      go_simp
      refine hK.out _ _ (by first | with_reducible exact HGW.out.drew | with_reducible assumption | with_reducible exact hHeld.trans hg1 | with_reducible exact hHeld.trans hg2 | with_reducible exact (hHeld.set _ (by simp) _).set _ (by simp) _) (fun hHeldN => ?_)
      clear hHeld hK K
      have hHeld := hHeldN
      clear hHeldN
      refine wpAnyH_ready (rs := [2]) (by kernel_rfl) (by simp) (AllReadyH.cons rfl (fun K hK => ?_) AllReadyH.nil)
      go_simp
      (go_at_call 78; refine (HA.out _ (HGW.out.trans (Gr.refl W).drew)).mono ?_; rintro e wn1 ⟨x1, y1, rfl, hr1, hg1⟩)
      (try go_wp2_with fail)
      refine hK.out _ _ (by first | with_reducible exact HGW.out.drew | with_reducible assumption | with_reducible exact hHeld.trans hg1 | with_reducible exact hHeld.trans hg2 | with_reducible exact (hHeld.set _ (by simp) _).set _ (by simp) _) (fun hHeldN => ?_)
      clear hHeld hK K
      have hHeld := hHeldN
      clear hHeldN
      refine wpAnyH_ready (rs := [5]) (by kernel_rfl) (by simp) (AllReadyH.cons rfl (fun K hK => ?_) AllReadyH.nil)
      go_simp
      (go_at_call 79; refine (HM.out _ ((HGW.out.trans (Gr.refl W).drew).trans hg1)).mono ?_; rintro e wn2 ⟨x2, y2, rfl, hr2, hg2⟩)
      (try go_wp2_with fail)
      refine hK.out _ _ (by first | with_reducible exact HGW.out.drew | with_reducible assumption | with_reducible exact hHeld.trans hg1 | with_reducible exact hHeld.trans hg2 | with_reducible exact (hHeld.set _ (by simp) _).set _ (by simp) _) (fun hHeldN => ?_)
      clear hHeld hK K
      have hHeld := hHeldN
      clear hHeldN
      refine ty 6 11 hHeld ?_
      have hb := (HB0.out.gr (Gr.refl W).drew).gr (hg1.trans hg2)
      obtain ⟨b0, b1, g0, g1, bl⟩ := hb
      refine wpAnyH_ready (rs := [7]) (by kernel_rfl) (by simp) (AllReadyH.cons rfl (fun K hK => ?_) AllReadyH.nil)
      go_simp
      refine hK.out _ _ (by first | with_reducible exact HGW.out.drew | with_reducible assumption | with_reducible exact hHeld.trans hg1 | with_reducible exact hHeld.trans hg2 | with_reducible exact (hHeld.set _ (by simp) _).set _ (by simp) _) (fun hHeldN => ?_)
      clear hHeld hK K
      have hHeld := hHeldN
      clear hHeldN
      refine wpAnyH_done (by kernel_rfl) ?_ _
      go_wp2_with fail
      go_meet
      exact ⟨_, _, HFin.out _ _ wn1 wn2 hr1 hg1 hr2 hg2⟩
  case rest =>
  obtain ⟨wp, rfl⟩ : ∃ x, x = wc := ⟨_, rfl⟩
  obtain ⟨v1, v2, hI⟩ := hcut
  obtain ⟨ad1, cap1, rfl, _⟩ := own_row hI.r1
  obtain ⟨ad2, cap2, rfl, _⟩ := own_row hI.r2
  have HI : Hid (CopyInv w A M (.slice ad1 A.length cap1) (.slice ad2 M.length cap2) wp) := hI
  have b0 := hI.bx.c0
  have bl := hI.bx.lt
  clear hI HB0 HR0 HGW hWs HA HM
  go_wp2
  clear b0 bl
  go_loopw [15] (fun s15 wr => ∃ k : Nat, s15 = .int .i64 k ∧ k ≤ A.length ∧ CopyInv w A M (.slice ad1 A.length cap1) (.slice ad2 M.length cap2) wr) (fun s15 _ => A.length - (intOf s15).toNat)
  case atStart => exact ⟨0, rfl, Nat.zero_le _, HI.out⟩
  case round =>
    clear HI
    obtain ⟨k, rfl, hk, hI⟩ := hrel
    by_cases hlt : k < A.length
    · obtain ⟨g, cap, hv, _, hgl, _, _⟩ := own_form hI.r1 (by omega)
      cases hv
      have HI : Hid (CopyInv w A M (.slice (some ⟨g, 0, none⟩) A.length cap1) (.slice ad2 M.length cap2) wr) := hI
      have hki : (k : Int) < (A.length : Int) := by omega
      have hu : (A.flatMap accC)[k * 7]? = some (.string A[k].s) := by have := flat_get accC_len A k hlt 0 (by omega); simpa [accC] using this
      have HC : Hid (∀ w', Calls Try.prog 31 #[.string A[k].s] w' fun e w2 => e = .returned (.string A[k].s) ∧ Gr w' w2) := fun w' => HCl.out _ w' (HsA.out _ (List.getElem_mem hlt))
      obtain ⟨cap, rfl⟩ : ∃ c, c = cap1 := ⟨_, rfl⟩
      generalize A[k].s = s at hu HC
      have HSg : Hid (∀ a b, (fun w' => CopyInv w A M (.slice (some ⟨g, 0, none⟩) A.length cap) (.slice ad2 M.length cap2) w' ∧ w'.cell? ⟨w.heap.size, 0, none⟩ = some (.slice (some ⟨g, 0, none⟩) A.length cap) ∧ w'.cell? ⟨g, k * 7, none⟩ = some (.string s) ∧ w'.frozen? ⟨g, k * 7, none⟩ = false ∧ g < w'.heap.size) a → Gr a b → (fun w' => CopyInv w A M (.slice (some ⟨g, 0, none⟩) A.length cap) (.slice ad2 M.length cap2) w' ∧ w'.cell? ⟨w.heap.size, 0, none⟩ = some (.slice (some ⟨g, 0, none⟩) A.length cap) ∧ w'.cell? ⟨g, k * 7, none⟩ = some (.string s) ∧ w'.frozen? ⟨g, k * 7, none⟩ = false ∧ g < w'.heap.size) b) := by
        rintro a b ⟨h1, h2, h3, h4, h5⟩ gr
        exact ⟨h1.gr gr, gr.keep h2, gr.keep h3, gr.keepF h5 h4, Nat.lt_of_lt_of_le h5 gr.size⟩
      have HSs : Hid (∀ a, (fun w' => CopyInv w A M (.slice (some ⟨g, 0, none⟩) A.length cap) (.slice ad2 M.length cap2) w' ∧ w'.cell? ⟨w.heap.size, 0, none⟩ = some (.slice (some ⟨g, 0, none⟩) A.length cap) ∧ w'.cell? ⟨g, k * 7, none⟩ = some (.string s) ∧ w'.frozen? ⟨g, k * 7, none⟩ = false ∧ g < w'.heap.size) a → (fun w' => CopyInv w A M (.slice (some ⟨g, 0, none⟩) A.length cap) (.slice ad2 M.length cap2) w' ∧ w'.cell? ⟨w.heap.size, 0, none⟩ = some (.slice (some ⟨g, 0, none⟩) A.length cap) ∧ w'.cell? ⟨g, k * 7, none⟩ = some (.string s) ∧ w'.frozen? ⟨g, k * 7, none⟩ = false ∧ g < w'.heap.size) (a.setCell ⟨g, k * 7, none⟩ (.string s))) := by
        rintro a ⟨h1, h2, h3, h4, h5⟩
        have h6 := h1.set1 (k * 7) (.string s) hu
        exact ⟨h6, h6.bx.c0, World.cell?_setCell_same _ _ _ h3, by rw [World.frozen?_setCell]; exact h4, by simpa using h5⟩
      have HS0 : Hid ((fun w' => CopyInv w A M (.slice (some ⟨g, 0, none⟩) A.length cap) (.slice ad2 M.length cap2) w' ∧ w'.cell? ⟨w.heap.size, 0, none⟩ = some (.slice (some ⟨g, 0, none⟩) A.length cap) ∧ w'.cell? ⟨g, k * 7, none⟩ = some (.string s) ∧ w'.frozen? ⟨g, k * 7, none⟩ = false ∧ g < w'.heap.size) wr.drew) := HSg.out _ _ ⟨HI.out, HI.out.bx.c0, by rw [HI.out.r1.cellAt (k * 7) (by omega)]; exact hu, HI.out.r1.frozenAt _, hgl⟩ (Gr.refl _).drew
      clear hI hu
      go_wp2_with fail
      refine wp_region_held_drew (S := (fun w' => CopyInv w A M (.slice (some ⟨g, 0, none⟩) A.length cap) (.slice ad2 M.length cap2) w' ∧ w'.cell? ⟨w.heap.size, 0, none⟩ = some (.slice (some ⟨g, 0, none⟩) A.length cap) ∧ w'.cell? ⟨g, k * 7, none⟩ = some (.string s) ∧ w'.frozen? ⟨g, k * 7, none⟩ = false ∧ g < w'.heap.size)) (by kernel_rfl) (by first | with_reducible exact HS0.out | with_reducible exact HSg.out _ _ hHeld hg1 | with_reducible exact HSs.out _ hHeld | with_reducible assumption) (fun hHeld => ?_)
      refine ty 0 18 hHeld ?_
      refine ty 1 19 hHeld ?_
      refine ty 2 20 hHeld ?_
      refine ty 3 21 hHeld ?_
      refine ty 4 22 hHeld ?_
      refine ty 5 23 hHeld ?_
      refine ty 6 24 hHeld ?_
      refine ty 7 25 hHeld ?_
      refine ty 8 26 hHeld ?_
      refine wpAnyH_ready (rs := [9]) (by kernel_rfl) (by simp) (AllReadyH.cons rfl (fun K hK => ?_) AllReadyH.nil)
      go_simp
      (go_at_call 31; refine (HC.out _).mono ?_; rintro e wn1 ⟨rfl, hg1⟩)
      (try go_wp2_with fail)
      refine hK.out _ _ (by first | with_reducible exact HS0.out | with_reducible exact HSg.out _ _ hHeld hg1 | with_reducible exact HSs.out _ hHeld | with_reducible assumption) (fun hHeldN => ?_)
      clear hHeld hK K
      have hHeld := hHeldN
      clear hHeldN
      refine ty 10 28 hHeld ?_
      refine ty 11 29 hHeld ?_
      refine wpAnyH_ready (rs := [12]) (by kernel_rfl) (by simp) (AllReadyH.cons rfl (fun K hK => ?_) AllReadyH.nil)
      go_simp
      refine hK.out _ _ (by first | with_reducible exact HS0.out | with_reducible exact HSg.out _ _ hHeld hg1 | with_reducible exact HSs.out _ hHeld | with_reducible assumption) (fun hHeldN => ?_)
      clear hHeld hK K
      have hHeld := hHeldN
      clear hHeldN
      refine wpAnyH_done (by kernel_rfl) ?_ _
      have HI2 : Hid _ := hHeld.1
      clear hHeld HSg HSs HS0
      go_wp2
      go_roundw
      case rel => exact ⟨k + 1, by go_num, by omega, HI2.out⟩
      case measure => simp [intOf]; omega
    · have hge : ¬ ((k : Int) < (A.length : Int)) := by omega
      have HI : Hid (CopyInv w A M (.slice ad1 A.length cap1) (.slice ad2 M.length cap2) wr) := hI
      have b1 := hI.bx.c1
      have bl := hI.bx.lt
      clear hI
      go_wp2
      clear b1 bl
      go_loopw [34] (fun s34 wr => ∃ k : Nat, s34 = .int .i64 k ∧ k ≤ M.length ∧ CopyInv w A M (.slice ad1 A.length cap1) (.slice ad2 M.length cap2) wr) (fun s34 _ => M.length - (intOf s34).toNat)
      case atStart => exact ⟨0, rfl, Nat.zero_le _, HI.out⟩
      case round =>
        clear HI
        obtain ⟨k, rfl, hk, hI⟩ := hrel
        by_cases hlt : k < M.length
        · obtain ⟨g, cap, hv, _, hgl, _, _⟩ := own_form hI.r2 (by omega)
          cases hv
          have HI : Hid (CopyInv w A M (.slice ad1 A.length cap1) (.slice (some ⟨g, 0, none⟩) M.length cap2) wr) := hI
          have hki : (k : Int) < (M.length : Int) := by omega
          obtain ⟨cap, rfl⟩ : ∃ c, c = cap2 := ⟨_, rfl⟩
          have hu : (M.flatMap mkC)[k * 5]? = some (.string M[k].key) := by have := flat_get mkC_len M k hlt 0 (by omega); simpa [mkC] using this
          have HU2 : Hid ((M.flatMap mkC)[k * 5 + 2]? = some (.string M[k].t)) := by have := flat_get mkC_len M k hlt 2 (by omega); show _ = _; simpa [mkC] using this
          have HC : Hid (∀ w', Calls Try.prog 31 #[.string M[k].key] w' fun e w2 => e = .returned (.string M[k].key) ∧ Gr w' w2) := fun w' => HCl.out _ w' (HsM.out _ (List.getElem_mem hlt)).1
          have HC2 : Hid (∀ w', Calls Try.prog 31 #[.string M[k].t] w' fun e w2 => e = .returned (.string M[k].t) ∧ Gr w' w2) := fun w' => HCl.out _ w' (HsM.out _ (List.getElem_mem hlt)).2
          generalize M[k].key = s at hu HC
          generalize M[k].t = s2 at HU2 HC2
          have HSg : Hid (∀ a b, (fun w' => CopyInv w A M (.slice ad1 A.length cap1) (.slice (some ⟨g, 0, none⟩) M.length cap) w' ∧ w'.cell? ⟨w.heap.size, 1, none⟩ = some (.slice (some ⟨g, 0, none⟩) M.length cap) ∧ w'.cell? ⟨g, k * 5, none⟩ = some (.string s) ∧ w'.frozen? ⟨g, k * 5, none⟩ = false ∧ g < w'.heap.size) a → Gr a b → (fun w' => CopyInv w A M (.slice ad1 A.length cap1) (.slice (some ⟨g, 0, none⟩) M.length cap) w' ∧ w'.cell? ⟨w.heap.size, 1, none⟩ = some (.slice (some ⟨g, 0, none⟩) M.length cap) ∧ w'.cell? ⟨g, k * 5, none⟩ = some (.string s) ∧ w'.frozen? ⟨g, k * 5, none⟩ = false ∧ g < w'.heap.size) b) := by
            rintro a b ⟨h1, h2, h3, h4, h5⟩ gr
            exact ⟨h1.gr gr, gr.keep h2, gr.keep h3, gr.keepF h5 h4, Nat.lt_of_lt_of_le h5 gr.size⟩
          have HSs : Hid (∀ a, (fun w' => CopyInv w A M (.slice ad1 A.length cap1) (.slice (some ⟨g, 0, none⟩) M.length cap) w' ∧ w'.cell? ⟨w.heap.size, 1, none⟩ = some (.slice (some ⟨g, 0, none⟩) M.length cap) ∧ w'.cell? ⟨g, k * 5, none⟩ = some (.string s) ∧ w'.frozen? ⟨g, k * 5, none⟩ = false ∧ g < w'.heap.size) a → (fun w' => CopyInv w A M (.slice ad1 A.length cap1) (.slice (some ⟨g, 0, none⟩) M.length cap) w' ∧ w'.cell? ⟨w.heap.size, 1, none⟩ = some (.slice (some ⟨g, 0, none⟩) M.length cap) ∧ w'.cell? ⟨g, k * 5, none⟩ = some (.string s) ∧ w'.frozen? ⟨g, k * 5, none⟩ = false ∧ g < w'.heap.size) (a.setCell ⟨g, k * 5, none⟩ (.string s))) := by
            rintro a ⟨h1, h2, h3, h4, h5⟩
            have h6 := h1.set2 (k * 5) (.string s) hu
            exact ⟨h6, h6.bx.c1, World.cell?_setCell_same _ _ _ h3, by rw [World.frozen?_setCell]; exact h4, by simpa using h5⟩
          have HS0 : Hid ((fun w' => CopyInv w A M (.slice ad1 A.length cap1) (.slice (some ⟨g, 0, none⟩) M.length cap) w' ∧ w'.cell? ⟨w.heap.size, 1, none⟩ = some (.slice (some ⟨g, 0, none⟩) M.length cap) ∧ w'.cell? ⟨g, k * 5, none⟩ = some (.string s) ∧ w'.frozen? ⟨g, k * 5, none⟩ = false ∧ g < w'.heap.size) wr.drew) := HSg.out _ _ ⟨HI.out, HI.out.bx.c1, by rw [HI.out.r2.cellAt (k * 5) (by omega)]; exact hu, HI.out.r2.frozenAt _, hgl⟩ (Gr.refl _).drew
          clear hI hu
          go_upto_region 10 with fail
          refine wp_region_held_drew (S := (fun w' => CopyInv w A M (.slice ad1 A.length cap1) (.slice (some ⟨g, 0, none⟩) M.length cap) w' ∧ w'.cell? ⟨w.heap.size, 1, none⟩ = some (.slice (some ⟨g, 0, none⟩) M.length cap) ∧ w'.cell? ⟨g, k * 5, none⟩ = some (.string s) ∧ w'.frozen? ⟨g, k * 5, none⟩ = false ∧ g < w'.heap.size)) (by kernel_rfl) (by first | with_reducible exact HS0.out | with_reducible exact HSg.out _ _ hHeld hg1 | with_reducible exact HSs.out _ hHeld | with_reducible assumption) (fun hHeld => ?_)
          refine ty 0 37 hHeld ?_
          refine ty 1 38 hHeld ?_
          refine ty 2 39 hHeld ?_
          refine ty 3 40 hHeld ?_
          refine ty 4 41 hHeld ?_
          refine ty 5 42 hHeld ?_
          refine ty 6 43 hHeld ?_
          refine ty 7 44 hHeld ?_
          refine ty 8 45 hHeld ?_
          refine wpAnyH_ready (rs := [9]) (by kernel_rfl) (by simp) (AllReadyH.cons rfl (fun K hK => ?_) AllReadyH.nil)
          go_simp
          (go_at_call 31; refine (HC.out _).mono ?_; rintro e wn1 ⟨rfl, hg1⟩)
          (try go_wp2_with fail)
          refine hK.out _ _ (by first | with_reducible exact HS0.out | with_reducible exact HSg.out _ _ hHeld hg1 | with_reducible exact HSs.out _ hHeld | with_reducible assumption) (fun hHeldN => ?_)
          clear hHeld hK K
          have hHeld := hHeldN
          clear hHeldN
          refine ty 10 47 hHeld ?_
          refine ty 11 48 hHeld ?_
          refine wpAnyH_ready (rs := [12]) (by kernel_rfl) (by simp) (AllReadyH.cons rfl (fun K hK => ?_) AllReadyH.nil)
          go_simp
          refine hK.out _ _ (by first | with_reducible exact HS0.out | with_reducible exact HSg.out _ _ hHeld hg1 | with_reducible exact HSs.out _ hHeld | with_reducible assumption) (fun hHeldN => ?_)
          clear hHeld hK K
          have hHeld := hHeldN
          clear hHeldN
          refine wpAnyH_done (by kernel_rfl) ?_ _
          have HI2 := hHeld.1
          obtain ⟨W2, hW2⟩ : ∃ x, x = wn1.setCell ⟨g, k * 5, none⟩ (.string s) := ⟨_, rfl⟩
          rw [← hW2] at HI2 ⊢
          clear hHeld HSg HSs HS0 HI HC hg1 hW2
          obtain ⟨s, rfl⟩ : ∃ x, x = s2 := ⟨_, rfl⟩
          have hu := HU2.out
          have hgl := (HI2.r2.lt g rfl).2
          have HI : Hid (CopyInv w A M (.slice ad1 A.length cap1) (.slice (some ⟨g, 0, none⟩) M.length cap) W2) := HI2
          have HSg : Hid (∀ a b, (fun w' => CopyInv w A M (.slice ad1 A.length cap1) (.slice (some ⟨g, 0, none⟩) M.length cap) w' ∧ w'.cell? ⟨w.heap.size, 1, none⟩ = some (.slice (some ⟨g, 0, none⟩) M.length cap) ∧ w'.cell? ⟨g, k * 5 + 2, none⟩ = some (.string s) ∧ w'.frozen? ⟨g, k * 5 + 2, none⟩ = false ∧ g < w'.heap.size) a → Gr a b → (fun w' => CopyInv w A M (.slice ad1 A.length cap1) (.slice (some ⟨g, 0, none⟩) M.length cap) w' ∧ w'.cell? ⟨w.heap.size, 1, none⟩ = some (.slice (some ⟨g, 0, none⟩) M.length cap) ∧ w'.cell? ⟨g, k * 5 + 2, none⟩ = some (.string s) ∧ w'.frozen? ⟨g, k * 5 + 2, none⟩ = false ∧ g < w'.heap.size) b) := by
            rintro a b ⟨h1, h2, h3, h4, h5⟩ gr
            exact ⟨h1.gr gr, gr.keep h2, gr.keep h3, gr.keepF h5 h4, Nat.lt_of_lt_of_le h5 gr.size⟩
          have HSs : Hid (∀ a, (fun w' => CopyInv w A M (.slice ad1 A.length cap1) (.slice (some ⟨g, 0, none⟩) M.length cap) w' ∧ w'.cell? ⟨w.heap.size, 1, none⟩ = some (.slice (some ⟨g, 0, none⟩) M.length cap) ∧ w'.cell? ⟨g, k * 5 + 2, none⟩ = some (.string s) ∧ w'.frozen? ⟨g, k * 5 + 2, none⟩ = false ∧ g < w'.heap.size) a → (fun w' => CopyInv w A M (.slice ad1 A.length cap1) (.slice (some ⟨g, 0, none⟩) M.length cap) w' ∧ w'.cell? ⟨w.heap.size, 1, none⟩ = some (.slice (some ⟨g, 0, none⟩) M.length cap) ∧ w'.cell? ⟨g, k * 5 + 2, none⟩ = some (.string s) ∧ w'.frozen? ⟨g, k * 5 + 2, none⟩ = false ∧ g < w'.heap.size) (a.setCell ⟨g, k * 5 + 2, none⟩ (.string s))) := by
            rintro a ⟨h1, h2, h3, h4, h5⟩
            have h6 := h1.set2 (k * 5 + 2) (.string s) hu
            exact ⟨h6, h6.bx.c1, World.cell?_setCell_same _ _ _ h3, by rw [World.frozen?_setCell]; exact h4, by simpa using h5⟩
          have HS0 : Hid ((fun w' => CopyInv w A M (.slice ad1 A.length cap1) (.slice (some ⟨g, 0, none⟩) M.length cap) w' ∧ w'.cell? ⟨w.heap.size, 1, none⟩ = some (.slice (some ⟨g, 0, none⟩) M.length cap) ∧ w'.cell? ⟨g, k * 5 + 2, none⟩ = some (.string s) ∧ w'.frozen? ⟨g, k * 5 + 2, none⟩ = false ∧ g < w'.heap.size) W2.drew) := HSg.out _ _ ⟨HI.out, HI.out.bx.c1, by rw [HI.out.r2.cellAt (k * 5 + 2) (by omega)]; exact hu, HI.out.r2.frozenAt _, hgl⟩ (Gr.refl _).drew
          clear HI2 hu HU2
          go_wp2_with fail
          refine wp_region_held_drew (S := (fun w' => CopyInv w A M (.slice ad1 A.length cap1) (.slice (some ⟨g, 0, none⟩) M.length cap) w' ∧ w'.cell? ⟨w.heap.size, 1, none⟩ = some (.slice (some ⟨g, 0, none⟩) M.length cap) ∧ w'.cell? ⟨g, k * 5 + 2, none⟩ = some (.string s) ∧ w'.frozen? ⟨g, k * 5 + 2, none⟩ = false ∧ g < w'.heap.size)) (by kernel_rfl) (by first | with_reducible exact HS0.out | with_reducible exact HSg.out _ _ hHeld hg1 | with_reducible exact HSs.out _ hHeld | with_reducible assumption) (fun hHeld => ?_)
          refine ty 0 49 hHeld ?_
          refine ty 1 50 hHeld ?_
          refine ty 2 51 hHeld ?_
          refine ty 3 52 hHeld ?_
          refine ty 4 53 hHeld ?_
          refine ty 5 54 hHeld ?_
          refine ty 6 55 hHeld ?_
          refine ty 7 56 hHeld ?_
          refine ty 8 57 hHeld ?_
          refine ty 9 58 hHeld ?_
          refine wpAnyH_ready (rs := [10]) (by kernel_rfl) (by simp) (AllReadyH.cons rfl (fun K hK => ?_) AllReadyH.nil)
          go_simp
          (go_at_call 31; refine (HC2.out _).mono ?_; rintro e wn1 ⟨rfl, hg1⟩)
          (try go_wp2_with fail)
          refine hK.out _ _ (by first | with_reducible exact HS0.out | with_reducible exact HSg.out _ _ hHeld hg1 | with_reducible exact HSs.out _ hHeld | with_reducible assumption) (fun hHeldN => ?_)
          clear hHeld hK K
          have hHeld := hHeldN
          clear hHeldN
          refine ty 11 60 hHeld ?_
          refine ty 12 61 hHeld ?_
          refine ty 13 62 hHeld ?_
          refine wpAnyH_ready (rs := [14]) (by kernel_rfl) (by simp) (AllReadyH.cons rfl (fun K hK => ?_) AllReadyH.nil)
          go_simp
          refine hK.out _ _ (by first | with_reducible exact HS0.out | with_reducible exact HSg.out _ _ hHeld hg1 | with_reducible exact HSs.out _ hHeld | with_reducible assumption) (fun hHeldN => ?_)
          clear hHeld hK K
          have hHeld := hHeldN
          clear hHeldN
          refine wpAnyH_done (by kernel_rfl) ?_ _
          have HI3 : Hid _ := hHeld.1
          clear hHeld HSg HSs HS0
          go_wp2
          go_roundw
          case rel => exact ⟨k + 1, by go_num, by omega, HI3.out⟩
          case measure => simp [intOf]; omega
        · have hge : ¬ ((k : Int) < (M.length : Int)) := by omega
          obtain ⟨b0, b1, f0, f1, bl⟩ := hI.bx
          obtain ⟨r0, r1, q0, q1, rl⟩ := hI.rs
          have HI : Hid (CopyInv w A M (.slice ad1 A.length cap1) (.slice ad2 M.length cap2) wr) := hI
          clear hI
          go_wp2
          refine bodyPost_ret (v := .agg #[.slice ad1 A.length cap1, .slice ad2 M.length cap2]) (by simp [results, Try.results51, go_sem, *]) rfl ⟨_, _, rfl, ?_, ?_, (HI.out.g.set _ (by simp) _).set _ (by simp) _⟩
          · refine own_far (own_far (own_low HI.out.r1 (by omega)) _ _ ?_) _ _ ?_
            all_goals (intro h; have := (HI.out.r1.lt _ h).1; simp at this)
          · refine own_far (own_far (own_low HI.out.r2 (by omega)) _ _ ?_) _ _ ?_
            all_goals (intro h; have := (HI.out.r2.lt _ h).1; simp at this)
end Go.Proofs.Ytgidkmipecfjhaa
namespace Go.Proofs.Ytgidkmipecfjhaa
open Go.RowKit
open Led (Acc Mk)
structure LedAt (w : World) (adA : Option Addr) (adM : Option Addr) (A : List Acc) (M : List Mk) : Prop where
  a : AccsAt w adA A
  m : MksAt w adM M
  ra : ∀ x ∈ A, inA x
  rm : ∀ m ∈ M, inM m
  la : A.length ≤ 9223372036854775807
  lm : M.length ≤ 9223372036854775807
theorem LedAt.gr {w w' : World} {adA adM : Option Addr} {A : List Acc} {M : List Mk} (h : LedAt w adA adM A M) (g : Gr w w') : LedAt w' adA adM A M := ⟨h.a.gr g, h.m.gr g, h.ra, h.rm, h.la, h.lm⟩
theorem LedAt.may {w : World} {adA adM : Option Addr} {A : List Acc} {M : List Mk} (h : LedAt w adA adM A M) (capA capM : Nat) : Calls Try.prog 14 #[.agg #[.slice adA A.length capA, .slice adM M.length capM]] w fun e w' => e = .returned (.int .i64 (mayL A M)) ∧ Gr w w' :=
  may7_any A M adA capA adM capM w h.a h.m h.ra h.rm h.la h.lm
def accZ : Acc := ⟨⟨#[]⟩, 0, 0, 0, 0, 0, 0⟩
def findE (A : List Acc) (M : List Mk) (s : ByteArray) : Acc := if Led.mayB A M = true then (if Led.hasB (Led.nm A) s = true then A.getD (Led.pos (Led.nm A) s) accZ else accZ) else accZ
def findB (A : List Acc) (M : List Mk) (s : ByteArray) : Bool := Led.mayB A M && Led.hasB (Led.nm A) s
def stateE (A : List Acc) (M : List Mk) (s : ByteArray) : Int := if Led.mayB A M = true then (if Led.hasB (Led.ky M) s = true then (M[Led.pos (Led.ky M) s]?).elim 0 Mk.st else 0) else 0
theorem acc_small {A : List Acc} {M : List Mk} (h : Led.mayB A M = true) : ∀ x ∈ A, x.s.size ≤ 1000 := by
  intro x hx
  have hm := (Led.may_iff A M).1 h
  have := (Act.name_pos ((Act.acc_iff _ _ _ _ _ _ _).1 (hm.oa x hx)).1).2
  omega
theorem mk_small {A : List Acc} {M : List Mk} (h : Led.mayB A M = true) : ∀ m ∈ M, m.key.size ≤ 1000 ∧ m.t.size ≤ 1000 := by
  intro m hx
  have hm := (Led.may_iff A M).1 h
  obtain ⟨h1, h2, _⟩ := (Led.mk_iff A m).1 (hm.om m hx)
  have := (Act.name_pos ((Act.act_iff _ _ _).1 h2).2.1).2
  omega
set_option maxHeartbeats 4000000 in
set_option maxRecDepth 100000 in
theorem find7_any (A : List Acc) (M : List Mk) (s : ByteArray) (adA : Option Addr) (capA : Nat) (adM : Option Addr) (capM : Nat) (w : World) (h : LedAt w adA adM A M) :
    Calls Try.prog 10 #[.agg #[.slice adA A.length capA, .slice adM M.length capM], .string s] w fun e w' => e = .returned (.tuple #[.agg (accC (findE A M s)).toArray, .bool (findB A M s)]) ∧ Gr w w' := by
  have HM : Hid (∀ w', Gr w w' → Calls Try.prog 14 #[.agg #[.slice adA A.length capA, .slice adM M.length capM]] w' fun e w2 => e = .returned (.int .i64 (mayL A M)) ∧ Gr w' w2) := fun w' g => (h.gr g).may capA capM
  have HL : Hid (AccsAt w adA A) := h.a
  have hmf : ∀ (fn : Fn) (first cap : Array Value) (w : World), (Instr.makeFunc fn first cap).run Try.prog w = .ok (.func fn first cap) w := fun _ _ _ _ => rfl
  unfold findE findB
  cases hm : Led.mayB A M with
  | false =>
    rw [mayL_no hm] at HM
    clear h hm
    go_enter Try.func10, Try.ntmps10
    go_wp2_with fail
    refine (HM.out _ ((Gr.refl _).alloc.alloc)).mono ?_
    rintro e w1 ⟨rfl, hg1⟩
    have X := (AccAt.new (w.alloc (.cells #[.slice adA A.length capA, .slice adM M.length capM] 25)) (.string ⟨#[]⟩) (.int .i64 0) (.int .i64 0) (.int .i64 0) (.int .i64 0) (.int .i64 0) (.int .i64 0) 31 (w.heap.size + 1) (by simp)).gr hg1
    have g1 : Gr w w1 := (by repeat (first | exact Gr.refl _ | refine Gr.alloc ?_ | refine Gr.drew ?_ | refine Gr.trans ?_ (by assumption)))
    obtain ⟨c0, c1, c2, c3, c4, c5, c6⟩ := X.cells
    obtain ⟨f0, f1, f2, f3, f4, f5, f6⟩ := X.frozens
    have rl := X.lt
    clear X hg1
    go_wp2
    exact bodyPost_ret (v := .tuple #[.agg #[.string ⟨#[]⟩, .int .i64 0, .int .i64 0, .int .i64 0, .int .i64 0, .int .i64 0, .int .i64 0], .bool false]) (by simp [results, Try.results10, go_sem, *]) rfl ⟨rfl, g1.set7 _ (by omega) _ _ _ _ _ _ _⟩
  | true =>
    rw [mayL_yes hm] at HM
    have hM := (Led.may_iff A M).1 hm
    have HF : Hid (∀ w', Gr w w' → Calls Try.prog 30 #[.slice adA A.length capA, .string s] w' fun e w2 => e = .returned (.tuple #[.int .i64 (Led.pos (Led.nm A) s : Nat), .bool (Led.hasB (Led.nm A) s)]) ∧ Gr w' w2) := fun w' g => findA_any A s adA capA w' (h.a.gr g) hM.ua (by have := hM.la; omega)
    simp only [if_true, Bool.true_and]
    cases hb : Led.hasB (Led.nm A) s with
    | false =>
      rw [hb] at HF
      generalize Led.pos (Led.nm A) s = p at *
      clear h hm hM hb
      go_enter Try.func10, Try.ntmps10
      go_wp2_with fail
      refine (HM.out _ ((Gr.refl _).alloc.alloc)).mono ?_
      rintro e w1 ⟨rfl, hg1⟩
      have X := (AccAt.new (w.alloc (.cells #[.slice adA A.length capA, .slice adM M.length capM] 25)) (.string ⟨#[]⟩) (.int .i64 0) (.int .i64 0) (.int .i64 0) (.int .i64 0) (.int .i64 0) (.int .i64 0) 31 (w.heap.size + 1) (by simp)).gr hg1
      have B := ((TwoAt.new w (.slice adA A.length capA) (.slice adM M.length capM) 25 _ rfl).gr (Gr.refl _).alloc).gr hg1
      obtain ⟨b0, b1, _, _, bl⟩ := B
      have g1 : Gr w w1 := (by repeat (first | exact Gr.refl _ | refine Gr.alloc ?_ | refine Gr.drew ?_ | refine Gr.trans ?_ (by assumption)))
      have HX : Hid (AccAt w1 (w.heap.size + 1) (.string ⟨#[]⟩) (.int .i64 0) (.int .i64 0) (.int .i64 0) (.int .i64 0) (.int .i64 0) (.int .i64 0)) := X
      clear X hg1
      go_wp2_with fail
      refine (HF.out _ g1).mono ?_
      rintro e w2 ⟨rfl, hg2⟩
      have X := HX.out.gr hg2
      have g2 : Gr w w2 := g1.trans hg2
      obtain ⟨c0, c1, c2, c3, c4, c5, c6⟩ := X.cells
      obtain ⟨f0, f1, f2, f3, f4, f5, f6⟩ := X.frozens
      have rl := X.lt
      clear X hg2 b0 b1 bl HX g1
      go_wp2
      exact bodyPost_ret (v := .tuple #[.agg #[.string ⟨#[]⟩, .int .i64 0, .int .i64 0, .int .i64 0, .int .i64 0, .int .i64 0, .int .i64 0], .bool false]) (by simp [results, Try.results10, go_sem, *]) rfl ⟨rfl, g2.set7 _ (by omega) _ _ _ _ _ _ _⟩
    | true =>
      rw [hb] at HF
      obtain ⟨hp, _⟩ := Led.pos_mem hM.ua ((Led.has_iff _ _).1 hb)
      rw [Led.nm_len] at hp
      have HC : Hid (∀ w', Calls Try.prog 31 #[.string (A.getD (Led.pos (Led.nm A) s) accZ).s] w' fun e w2 => e = .returned (.string (A.getD (Led.pos (Led.nm A) s) accZ).s) ∧ Gr w' w2) := fun w' => clone_any _ w' (by
        have := acc_small hm A[Led.pos (Led.nm A) s] (List.getElem_mem hp)
        rw [List.getD_eq_getElem?_getD, List.getElem?_eq_getElem hp]
        simp only [Option.getD_some]; omega)
      have hgd : A.getD (Led.pos (Led.nm A) s) accZ = A[Led.pos (Led.nm A) s] := by rw [List.getD_eq_getElem?_getD, List.getElem?_eq_getElem hp]; rfl
      obtain ⟨b, off, had, hbw, d0, d1, d2, d3, d4, d5, d6⟩ := (AccsAt.at HL.out (Led.pos (Led.nm A) s) hp)
      simp only [if_true]
      rw [← hgd] at d0 d1 d2 d3 d4 d5 d6
      generalize A.getD (Led.pos (Led.nm A) s) accZ = x at *
      generalize Led.pos (Led.nm A) s = p at *
      subst had
      have hpi : (p : Int) < (A.length : Int) := by omega
      clear h hm hM hb hgd
      go_enter Try.func10, Try.ntmps10
      go_wp2_with fail
      refine (HM.out _ ((Gr.refl _).alloc.alloc)).mono ?_
      rintro e w1 ⟨rfl, hg1⟩
      have X := (AccAt.new (w.alloc (.cells #[.slice (some ⟨b, off, none⟩) A.length capA, .slice adM M.length capM] 25)) (.string ⟨#[]⟩) (.int .i64 0) (.int .i64 0) (.int .i64 0) (.int .i64 0) (.int .i64 0) (.int .i64 0) 31 (w.heap.size + 1) (by simp)).gr hg1
      have B := ((TwoAt.new w (.slice (some ⟨b, off, none⟩) A.length capA) (.slice adM M.length capM) 25 _ rfl).gr (Gr.refl _).alloc).gr hg1
      have HB : Hid (TwoAt w1 w.heap.size (.slice (some ⟨b, off, none⟩) A.length capA) (.slice adM M.length capM)) := B
      obtain ⟨b0, b1, _, _, bl⟩ := B
      have g1 : Gr w w1 := (by repeat (first | exact Gr.refl _ | refine Gr.alloc ?_ | refine Gr.drew ?_ | refine Gr.trans ?_ (by assumption)))
      have HX : Hid (AccAt w1 (w.heap.size + 1) (.string ⟨#[]⟩) (.int .i64 0) (.int .i64 0) (.int .i64 0) (.int .i64 0) (.int .i64 0) (.int .i64 0)) := X
      clear X hg1
      go_wp2_with fail
      refine (HF.out _ g1).mono ?_
      rintro e w2 ⟨rfl, hg2⟩
      have HX2 : Hid (AccAt w2 (w.heap.size + 1) (.string ⟨#[]⟩) (.int .i64 0) (.int .i64 0) (.int .i64 0) (.int .i64 0) (.int .i64 0) (.int .i64 0)) := HX.out.gr hg2
      have g2 : Gr w w2 := g1.trans hg2
      have e0 := g2.keep d0
      have e1 := g2.keep d1
      have e2 := g2.keep d2
      have e3 := g2.keep d3
      have e4 := g2.keep d4
      have e5 := g2.keep d5
      have e6 := g2.keep d6
      obtain ⟨b0, b1, _, _, bl⟩ := HB.out.gr hg2
      have hbw2 : b < w2.heap.size := Nat.lt_of_lt_of_le hbw g2.size
      clear hg2 HX g1 HB d0 d1 d2 d3 d4 d5 d6
      go_wp2_with fail
      refine (HC.out _).mono ?_
      rintro e w3 ⟨rfl, hg3⟩
      have g3 : Gr w w3 := g2.alloc.trans hg3
      have Y := (AccAt.new w2 (.string x.s) (.int .i64 x.a) (.int .i64 x.b) (.int .i64 x.c) (.int .i64 x.x) (.int .i64 x.y) (.int .i64 x.z) 31 _ rfl).gr hg3
      have X := HX2.out.gr ((Gr.refl w2).alloc.trans hg3)
      have hyx : w.heap.size + 1 < w2.heap.size := HX2.out.lt
      obtain ⟨c0, c1, c2, c3, c4, c5, c6⟩ := X.cells
      obtain ⟨f0, f1, f2, f3, f4, f5, f6⟩ := X.frozens
      obtain ⟨y0, y1, y2, y3, y4, y5, y6⟩ := Y.cells
      obtain ⟨q0, q1, q2, q3, q4, q5, q6⟩ := Y.frozens
      have rl := X.lt
      have yl := Y.lt
      clear X Y hg3 b0 b1 bl e0 e1 e2 e3 e4 e5 e6 HX2
      go_wp2
      exact bodyPost_ret (v := .tuple #[.agg #[.string x.s, .int .i64 x.a, .int .i64 x.b, .int .i64 x.c, .int .i64 x.x, .int .i64 x.y, .int .i64 x.z], .bool true]) (by simp [results, Try.results10, go_sem, *]) rfl ⟨rfl, (by (with_reducible repeat' (first | exact Gr.refl _ | refine Gr.set ?_ _ ?_ _ | refine Gr.alloc ?_ | refine Gr.drew ?_ | refine Gr.trans ?_ (by assumption))) <;> (first | (simp; done) | (simp; omega) | omega))⟩
end Go.Proofs.Ytgidkmipecfjhaa
