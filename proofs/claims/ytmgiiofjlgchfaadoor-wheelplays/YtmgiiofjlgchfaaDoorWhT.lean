
/- wheel: Set. -/
import Derived.Test.YtmgiiofjlgchfaaDoorWhS
namespace Go.Proofs.YtmgiiofjlgchfaaDoor
open Go.RowKit Go.Maps Go.Sort
open Wh (Tm Sl ks hasK atK del ins put dig whl Inv)

theorem key_some {k : ByteArray} (h : 1 ≤ k.size) : (k.toList == []) = false := by
  rw [Wh.toL]
  cases hk : k.data.toList with
  | nil =>
    exfalso
    have := congrArg List.length hk
    rw [Array.length_toList] at this
    have : k.size = 0 := this
    omega
  | cons x l => rfl
set_option maxHeartbeats 2000000 in
set_option maxRecDepth 100000 in
theorem set_time {b m t : Nat} {L : List Tm} {S : Sl} {V : Vl} {w : World} (h : WAt w b m t L S V) (k : ByteArray) (a : Int) (h1 : 1 ≤ k.size) (h2 : k.size ≤ 100) (h3 : a ≤ t) (ht : t ≤ 1000000000) :
    Calls Tryd.prog 11 #[ptr b, .string k, .int .i64 a] w fun e w' => e = .returned (.int .i64 110) ∧ w' = w := by
  have hN := isNone_any h
  have hz := key_some h1
  have h2' : ¬ (100 : Int) < (k.size : Int) := by omega
  have h3' : ¬ (1000000000 : Int) < a := by omega
  have hn := h.now
  clear h
  go_enter Tryd.func11, Tryd.ntmps11
  go_wp2_with (go_at_call 26; refine hN.mono ?_; rintro e w' ⟨rfl, rfl⟩)
  go_ret
  exact ⟨rfl, rfl⟩
set_option maxHeartbeats 2000000 in
set_option maxRecDepth 100000 in
theorem set_big {b m t : Nat} {L : List Tm} {S : Sl} {V : Vl} {w : World} (h : WAt w b m t L S V) (hi : Inv t L S) (k : ByteArray) (a : Int) (h1 : 1 ≤ k.size) (h2 : k.size ≤ 100) (h3 : (t : Int) < a) (h4 : a ≤ 1000000000) (hh : hasK L k = false) (h5 : 200 ≤ L.length) :
    Calls Tryd.prog 11 #[ptr b, .string k, .int .i64 a] w fun e w' => e = .returned (.int .i64 3) ∧ Gr w w' := by
  have hN := isNone_any h
  have hD := drop_no h hi k (by omega) hh
  have hz := key_some h1
  have h2' : ¬ (100 : Int) < (k.size : Int) := by omega
  have h3' : ¬ (1000000000 : Int) < a := by omega
  have h4' : ¬ a ≤ (t : Int) := by omega
  have hn := h.now
  have HW : Hid (WAt w b m t L S V) := h
  have h5' : (200 : Int) ≤ (L.length : Int) := by omega
  clear h hi
  go_enter Tryd.func11, Tryd.ntmps11
  go_wp2_with (go_at_call 26; refine hN.mono ?_; rintro e w' ⟨rfl, rfl⟩)
  refine hD.mono ?_
  rintro e w1 ⟨rfl, hg⟩
  have HG : Hid (Gr _ _) := hg
  have hmp := (HW.out.gr hg).mp
  have hlen := fun ty => (HW.out.gr hg).due.len Tryd.underlying51 ty
  clear hg hD hN hn
  go_wp2
  go_ret
  exact ⟨rfl, HG.out⟩
theorem WAt.perm {w : World} {b m t : Nat} {L L' : List Tm} {S : Sl} {V : Vl} (h : WAt w b m t L S V) (p : L.Perm L') : WAt w b m t L' S V :=
  ⟨h.now, h.mp, h.fz, h.sl, h.due.perm p, h.row, h.apart, h.off⟩
theorem append_slot {w w' : World} {b m t : Nat} {L : List Tm} {S : Sl} {V : Vl} {k : ByteArray} (h : WAt w b m t L S V) {g d : Nat} (hg : g < 6) (hd : d < 32) (hgrow : w.grownBy w' (V g d).ownBlock) {v : Value} (hown : w'.ownsRow 0 9 1 v ((S g d).length + 1) (strs (S g d) ++ [.string k])) (hloc : v.ownBlock = (V g d).ownBlock ∨ v.ownBlock = some w.heap.size) :
    Hid (WAt (w'.setCell ⟨b, 2 + g * 32 + d, none⟩ v) b m t L (put S g d (S g d ++ [k])) (setV V g d v) ∧ Tn w (w'.setCell ⟨b, 2 + g * 32 + d, none⟩ v) b m V (setV V g d v)) := by
  have hown' : w'.ownsRow 0 9 1 v (S g d ++ [k]).length (strs (S g d ++ [k])) := by simpa [strs] using hown
  refine h.setSlot hg hd hgrow hown' (fun j hj => ?_)
  rcases hloc with e | e
  · exact Or.inl (by rw [← e]; exact hj)
  · rw [e] at hj
    injection hj with hj
    exact Or.inr (by omega)
set_option maxHeartbeats 4000000 in
set_option maxRecDepth 100000 in
theorem set_ok {b m t a : Nat} {L : List Tm} {S : Sl} {V : Vl} {w : World} (h : WAt w b m t L S V) (hi : Inv t L S) (k : ByteArray) (h1 : 1 ≤ k.size) (h2 : k.size ≤ 100) (h3 : t < a) (h4 : a ≤ 1000000000) (h5 : hasK L k = true ∨ L.length < 200) :
    Calls Tryd.prog 11 #[ptr b, .string k, .int .i64 (a : Int)] w fun e w' => e = .returned (.int .i64 0) ∧ DrA w w' b m t (ins (del L k) (k, a)) V := by
  have hN := isNone_any h
  have hD := drop_any h hi k (by omega)
  have hz := key_some h1
  have h2' : ¬ (100 : Int) < (k.size : Int) := by omega
  have h3' : ¬ (1000000000 : Int) < (a : Int) := by omega
  have h4' : ¬ (a : Int) ≤ (t : Int) := by omega
  have hn := h.now
  have hlen200 : (del L k).length < 200 := by
    rcases h5 with h5 | h5
    · have := Wh.del_len hi.ok.nd h5
      have := hi.ok.few
      omega
    · exact Nat.lt_of_le_of_lt (List.length_filter_le _ _) h5
  have hdh := Wh.del_has L k
  have ht30 := hi.tlim
  have ha30 : a < 2 ^ 30 := by omega
  have hne : a ≠ t := by omega
  obtain ⟨_, h6⟩ := Wh.whl_in hne ha30 ht30
  have hd := Wh.dig_lt a (whl t a)
  obtain ⟨i0, hi0, hz0, hz1, hz2⟩ := info_parts infoStr
  obtain ⟨c, HC⟩ : ∃ c, Hid (c = hasK L k) := ⟨_, rfl⟩
  have HC2 : Hid (c = false → ¬ (200 : Int) ≤ ((del L k).length : Int)) := fun _ => by omega
  rw [← HC.out] at hD
  have HL : Hid (hasK (del L k) k = false) := hdh
  have HL2 : Hid ((del L k).length < 200) := hlen200
  clear h hi HC h5 hdh hlen200
  generalize del L k = L1 at hD HC2 HL HL2
  have HZ : Hid (∀ (L1 : List Tm) (S1 : Sl), Inv t L1 S1 → hasK L1 k = false → L1.length < 200 → Inv t (ins L1 (k, a)) (put S1 (whl t a) (dig a (whl t a)) (S1 (whl t a) (dig a (whl t a)) ++ [k]))) := fun L1 S1 hi hx hl => hi.set hx h3 h4 h1 h2 hl
  obtain ⟨g, HG⟩ : ∃ g, Hid (g = whl t a) := ⟨_, rfl⟩
  have HSl : Hid (∀ {L1 S1 V1 W}, WAt W b m t L1 S1 V1 → Calls Tryd.prog 28 #[ptr b, .int .i64 (a : Int)] W fun e w' => e = .returned (.pointer (some ⟨b, 2 + whl t a * 32 + dig a (whl t a), none⟩)) ∧ ∃ n, w' = W.drewN n) := fun h => slot_any h ht30 ha30 hne
  rw [← HG.out] at h6 hd HZ HSl
  obtain ⟨d, HD⟩ : ∃ d, Hid (d = dig a g) := ⟨_, rfl⟩
  rw [← HD.out] at hd HZ HSl
  clear HG HD ht30 ha30 hne
  go_enter Tryd.func11, Tryd.ntmps11
  go_wp2_with (go_at_call 26; refine hN.mono ?_; rintro e w' ⟨rfl, hw⟩; obtain rfl := hw.symm; clear hw)
  refine hD.mono ?_
  rintro e w1 ⟨rfl, S1, V1, hw1, hi1, ht1⟩
  have HI : Hid (Inv t L1 S1) := hi1
  have HT : Hid (Tn w w1 b m V V1) := ht1
  have HW : Hid (WAt w1 b m t L1 S1 V1) := hw1
  have hmp := hw1.mp
  have hlen := fun ty => hw1.due.len Tryd.underlying51 ty
  have h200 : ¬ (200 : Int) ≤ (L1.length : Int) := by have := HL2.out; omega
  clear hD hN hn hw1 hi1 ht1 HC2
  cases c
  all_goals
    go_wp2_with fail
    refine (clone_any k w1 (by omega)).mono ?_
    rintro e w2 ⟨rfl, hg2⟩
    have hw2 := HW.out.gr hg2
    have hmp2 := hw2.mp
    obtain ⟨w3, hr3, hd3, hg3, hs3⟩ := hw2.due.put Tryd.underlying51 (k := k) (a := a) (by omega) HL.out (by have := HL2.out; omega) (by omega)
    have hw3 := (hw2.setDue hg3 hd3)
    have HT3 : Hid (Tn w w3 b m V V1) := (HT.out.gr' hg2).trans (Tn.of_grown hg3 (fun j hj => by cases hj; exact Or.inl (Or.inr (Or.inl rfl))))
    have HW3 : Hid (WAt w3 b m t ((k, a) :: L1) S1 V1) := hw3
    have HC3 := HSl.out hw3
    clear hw2 hw3 hd3 hg3 hs3 hg2 HW HT
    go_wp2_with fail
    refine HC3.mono ?_
    rintro e w4 ⟨rfl, n, rfl⟩
    have hw4 := HW3.out.drewN n
    have hc4 := hw4.sl g d h6 hd
    have HW5 : Hid (WAt ((w3.drewN n).alloc (.cells #[.string k] 9)) b m t ((k, a) :: L1) S1 V1) := hw4.gr (Gr.refl _).alloc
    have HT5 : Hid (Tn w ((w3.drewN n).alloc (.cells #[.string k] 9)) b m V V1) := (HT3.out.gr' ((Gr.refl w3).drewN n)).gr' (Gr.refl _).alloc
    have HR5 : Hid (World.ownsRow ((w3.drewN n).alloc (.cells #[.string k] 9)) 0 9 1 (V1 g d) (S1 g d).length (strs (S1 g d))) := HW5.out.row g d h6 hd
    have hl5 := HI.out.len g d
    clear hw4 HC3 HW3 HT3 hr3 hmp2
    go_wp2_with (first
      | (at_builtin; refine wpList_append_own_at _ rfl _ _ 52 rfl 0 9 i0 (.string ⟨#[]⟩) 1 16 Tryd.underlying52 hi0 hz0 hz1 hz2 rfl (by decide) _ _ _ rfl HR5.out ⟨(w3.drewN n).heap.size, 0, none⟩ 1 1 [.string k] rfl rfl (cell_one rfl) (by intro u hu; simp at hu; subst hu; rfl) (by unfold maxLen; omega) (by omega) (by omega) ?_; intro v' w6 hown hgrow hnil hloc
         have HS := append_slot HW5.out h6 hd hgrow hown hloc
         obtain ⟨ad', c', rfl⟩ := own_slice hown
         obtain ⟨hf6, hc6⟩ := HW5.out.slotF h6 hd hgrow
         clear hown hgrow hnil hloc HR5 hc4)
      | go_in)
    go_ret
    refine ⟨rfl, _, _, HS.out.1.perm (Wh.ins_perm _ _).symm, HZ.out _ _ HI.out HL.out HL2.out, HT5.out.trans HS.out.2⟩
end Go.Proofs.YtmgiiofjlgchfaaDoor
