
/- wheel: Drop of a timer that is there. -/
import Derived.Test.YtmgiiofjlgchfaaDoorWhD
namespace Go.Proofs.YtmgiiofjlgchfaaDoor
open Go.RowKit Go.Maps Go.Sort
open Wh (Tm Sl ks hasK atK del ins put dig whl Inv)

theorem WAt.drewN {w : World} {b m t : Nat} {L : List Tm} {S : Sl} {V : Vl} (h : WAt w b m t L S V) (n : Nat) : WAt (w.drewN n) b m t L S V := h.gr ((Gr.refl w).drewN n)
theorem WAt.slotF {w w' : World} {b m t : Nat} {L : List Tm} {S : Sl} {V : Vl} (h : WAt w b m t L S V) {g d : Nat} (hg : g < 6) (hd : d < 32) (k : w.grownBy w' (V g d).ownBlock) :
    w'.frozen? ⟨b, 2 + g * 32 + d, none⟩ = false ∧ w'.cell? ⟨b, 2 + g * 32 + d, none⟩ = some (V g d) := by
  have hb := k.block b h.lt (fun e => (h.off g d hg hd).1 e.symm)
  rw [World.frozen?_of_block (w := w) hb, World.cell?_of_block (w := w) hb]
  exact ⟨h.fz _ (by omega), h.sl g d hg hd⟩
def DrR (w w' : World) (b m t : Nat) (L : List Tm) (S : Sl) (V : Vl) : Prop := ∃ V', WAt w' b m t L S V' ∧ Tn w w' b m V V'
set_option maxHeartbeats 4000000 in
set_option maxRecDepth 100000 in
theorem drop_yes {b m t : Nat} {L : List Tm} {S : Sl} {V : Vl} {w : World} (h : WAt w b m t L S V) (hi : Inv t L S) (k : ByteArray) (hk : k.size ≤ 9223372036854775807) (hh : hasK L k = true) :
    Calls Tryd.prog 14 #[ptr b, .string k] w fun e w' => e = .returned (.bool true) ∧ DrR w w' b m t (del L k) (put S (whl t (atK L k)) (dig (atK L k) (whl t (atK L k))) ((S (whl t (atK L k)) (dig (atK L k) (whl t (atK L k)))).filter (fun x => !decide (x = k)))) V := by
  obtain ⟨a, ha⟩ := Wh.hasK_mem hh
  have hat := Wh.atK_of hi.ok.nd ha
  simp only at hat
  have hA := at_any (h.gr (Gr.refl w).alloc (w' := w.alloc (.cells #[.string k] 9))) hi.ok.nd k hk
  rw [hh] at hA
  rw [hat] at hA ⊢
  have ht30 := hi.tlim
  have ha30 := hi.lim ha
  have hne : a ≠ t := by have := (hi.ok.ahead _ ha).1; simp only at this; omega
  obtain ⟨_, h6⟩ := Wh.whl_in hne ha30 ht30
  have hd := Wh.dig_lt a (whl t a)
  have hkm : k ∈ S (whl t a) (dig a (whl t a)) := hi.mem.2 ⟨a, ha, rfl, rfl⟩
  have hmp := h.mp
  have hlt := h.lt
  -- the box, the key dropped from the map
  have hbx := h.gr (Gr.refl w).alloc.drew (w' := (w.alloc (.cells #[.string k] 9)).drew)
  obtain ⟨w2, hrun, hdue, hg2, hs2⟩ := hbx.due.drop hi.ok.nd Tryd.underlying51 hk hh 0
  have hw2 := hbx.setDue hg2 hdue
  have ht2 : Tn w w2 b m V V := (Tn.gr (Gr.refl w).alloc.drew).trans (Tn.of_grown hg2 (fun j hj => by cases hj; exact Or.inl (Or.inr (Or.inl rfl))))
  have hB : ∀ j, own b m V j → j ≠ w.heap.size := fun j hj e => by have := h.own_lt hj; omega
  have hc2 : w2.cell? ⟨w.heap.size, 0, none⟩ = some (.string k) := by
    rw [World.cell?_of_block (w := (w.alloc (.cells #[.string k] 9)).drew) (hg2.block w.heap.size (by simp) (fun e => hB m (Or.inr (Or.inl rfl)) (by injection e with e; exact e.symm)))]
    simp
  have hsl := slot_any hw2 ht30 ha30 hne
  obtain ⟨g, HG⟩ : ∃ g, Hid (g = whl t a) := ⟨_, rfl⟩
  rw [← HG.out] at h6 hd hkm hsl ⊢
  obtain ⟨d, HD⟩ : ∃ d, Hid (d = dig a g) := ⟨_, rfl⟩
  rw [← HD.out] at hd hkm hsl ⊢
  have HDel : Hid (∀ n, Calls Tryd.prog 29 #[V g d, .func (.func 30) #[] #[.pointer (some ⟨w.heap.size, 0, none⟩)]] (w2.drewN n) fun e w' => DelR (w2.drewN n) w' (V g d) ((S g d).filter (fun x => !decide (x = k))) e) := fun n =>
    deleteF_any ((hw2.drewN n).row g d h6 hd) (fun e => by rw [e] at hkm; cases hkm) hc2 (fun e => hB w.heap.size (Or.inr (Or.inr ⟨g, d, h6, hd, e⟩)) rfl)
  have HW : Hid (∀ n, WAt (w2.drewN n) b m t (del L k) S V) := fun n => hw2.drewN n
  have HT : Hid (∀ n, Tn w (w2.drewN n) b m V V) := fun n => ht2.trans (Tn.gr ((Gr.refl w2).drewN n))
  have hcS : ∀ n, (w2.drewN n).cell? ⟨b, 2 + g * 32 + d, none⟩ = some (V g d) := fun n => (hw2.drewN n).sl g d h6 hd
  have HO : Hid (b ≠ w.heap.size) := by have := hlt; show b ≠ _; omega
  have HF : Hid (∀ n w3, (w2.drewN n).grownBy w3 (V g d).ownBlock → w3.frozen? ⟨b, 2 + g * 32 + d, none⟩ = false ∧ w3.cell? ⟨b, 2 + g * 32 + d, none⟩ = some (V g d)) := fun n w3 hg => (hw2.drewN n).slotF h6 hd hg
  clear h hi hbx hw2 ht2 hg2 hdue hs2 hkm HG HD hh hat ha hB
  go_enter Tryd.func14, Tryd.ntmps14
  go_wp2_with (go_at_call 21; refine hA.mono ?_; rintro e w' ⟨rfl, rfl⟩)
  go_region
  clear hrun hA hmp
  go_wp2_with (go_at_call 28; refine hsl.mono ?_; rintro e w' ⟨rfl, n, rfl⟩)
  have hcn := hcS n
  clear hcS hsl
  go_wp2_with fail
  refine (HDel.out n).mono ?_
  rintro e w3 ⟨v', rfl, hr3, hb3, hg3⟩
  obtain ⟨hf3, hf4⟩ := HF.out n w3 hg3
  have hS := (HW.out n).setSlot h6 hd hg3 hr3 (fun j hj => by rw [hb3] at hj; exact Or.inl hj)
  have HS : Hid (WAt _ _ _ _ _ _ _ ∧ Tn _ _ _ _ _ _) := hS
  have HTn := HT.out n
  obtain ⟨ad', c', rfl⟩ := own_slice hr3
  clear hS hr3 hb3 hg3 HF HW HDel hcn hc2 HT
  go_wp2
  go_ret
  exact ⟨rfl, _, HS.out.1, HTn.trans HS.out.2⟩
end Go.Proofs.YtmgiiofjlgchfaaDoor
