/- Parts of these proofs, laid together. -/
import Derived.Test.YthaadiclopoamaaGreatDoorGM
import Derived.Test.YthaadiclopoamaaGreatDoorGH
import Derived.Test.YthaadiclopoamaaGreatDoorGG
import Derived.Test.YthaadiclopoamaaGreatDoorGBO
/- The document's Scan. -/
set_option maxRecDepth 100000
set_option maxHeartbeats 8000000
namespace Go.Proofs.YthaadiclopoamaaGreatDoor
open Go.RowKit
open _root_.Go.Proofs.YthaadiclopoamaaGreatDoor.Act (letB digB sgnB nameB)
open Lex (Tok blkB remB run numB sigB S scF scA scT)

structure RsI (w : World) (s : ByteArray) (wr : World) (k : Nat) (T : List Tok) (v : Value) : Prop where
 le : k <= s.size
 tl : T.length <= k
 fa : FaAt wr w.heap.size 0 0
 own : wr.ownsRow (w.heap.size + 1) 167 3 v T.length (tokV T)
 g : Gr w wr
 eq : S s.data.toList 0 = (T ++ (S (s.data.toList.drop k) k).1, (S (s.data.toList.drop k) k).2)

theorem refScan_any (s : ByteArray) (w : World) : Calls Tryz.prog 118 #[.string s] w fun e w' => ∃ ad cap, e = .returned (.tuple #[.slice ad (scT s.data.toList).length cap, .agg #[.int .i64 (scF s.data.toList), .int .i64 (scA s.data.toList)]]) /\ (scT s.data.toList).length <= cap /\ ToksAt w' ad (scT s.data.toList) /\ (∀ a, ad = some a -> w.heap.size <= a.block) /\ Gr w w' := by
 by_cases hb : 2000 < s.size
 ·obtain ⟨h1, h2, h3⟩ := sc_big hb
  rw [h1, h2, h3]
  have hbi : (2000 : Int) < (s.size : Int) := by omega
  clear h1 h2 h3
  go_enter Tryz.func118, Tryz.ntmps118
  go_wp2
  exact bodyPost_ret (v := .tuple #[.slice none 0 0, .agg #[.int .i64 3, .int .i64 0]]) (by simp [results, Tryz.results118, go_sem]) rfl ⟨none, 0, rfl, by simp, ToksAt.nil, (fun a e => by cases e), (by (with_reducible repeat' (first | exact Gr.refl _ | refine Gr.set ?_ _ ?_ _ | refine Gr.alloc ?_ | refine Gr.drew ?_ | refine Gr.trans ?_ (by assumption))) <;> (first | (simp; done) | (simp; omega) | omega))⟩
 obtain ⟨i0, hi, hz0, hz1, hz2⟩ := info_parts3 infoTok
 have hbi : ¬ (2000 : Int) < (s.size : Int) := by omega
 have hs : s.size <= 2000 := by omega
 have hl0 : s.data.toList.length = s.size := by simp
 have HY : Hid ((S s.data.toList 0).2 = none -> scF s.data.toList = 0 /\ scA s.data.toList = 0 /\ scT s.data.toList = (S s.data.toList 0).1) := sc_yes hb
 have HN : Hid (∀ {p : Nat}, (S s.data.toList 0).2 = some p -> scF s.data.toList = 80 /\ scA s.data.toList = p /\ scT s.data.toList = []) := sc_no hb
 have HB : Hid (∀ (k : Nat) (hk : k < s.size) (w' : World), Calls Tryz.prog 136 #[.string s, .int .i64 (k : Int)] w' fun e w2 => e = .returned (.int .i64 ((blN (s.data.toList.drop k) : Nat) : Int)) /\ w2 = w') := fun k hk w' => refBlank_any s k w' hk hs
 have HSm : Hid (∀ (b : UInt8) (w : World), Calls Tryz.prog 137 #[.int .u8 (b.toNat : Int)] w fun e w' => e = .returned (.bool (letB b)) /\ w' = w) := refSmall_any
 have HDi : Hid (∀ (b : UInt8) (w : World), Calls Tryz.prog 138 #[.int .u8 (b.toNat : Int)] w fun e w' => e = .returned (.bool (digB b)) /\ w' = w) := refDigit_any
 have HNa : Hid (∀ (x : ByteArray) (w' : World), x.size <= 2000 -> Calls Tryz.prog 38 #[.string x] w' fun e w2 => e = .returned (.bool (nameB x)) /\ w2 = w') := fun x w' h => refName_any x w' (by omega)
 have HNu : Hid (∀ (x : ByteArray) (w' : World), x.size <= 2000 -> Calls Tryz.prog 139 #[.string x] w' fun e w2 => e = .returned (.bool (numB x)) /\ w2 = w') := fun x w' h => lRefNumber_any x w' (by omega)
 have HSi : Hid (∀ (x : ByteArray) (w' : World), Calls Tryz.prog 140 #[.string x] w' fun e w2 => e = .returned (.bool (sigB x)) /\ w2 = w') := fun x w' => refSign_any x w'
 have HI0 : Hid (RsI w s (w.alloc (.cells #[.int .i64 0, .int .i64 0] 136)) 0 [] (.slice none 0 0)) := ⟨by omega, by simp, FaAt.new w 0 0 136 _ rfl, World.ownsRow_nil _ _ _ _, (Gr.refl _).alloc, by simp⟩
 generalize scT s.data.toList = RT at *
 generalize scF s.data.toList = RF at *
 generalize scA s.data.toList = RA at *
 clear hb
 go_enter Tryz.func118, Tryz.ntmps118
 go_wp2
 go_loopw [4, 5] (fun v i wr => ∃ (k : Nat) (T : List Tok), i = .int .i64 (k : Int) /\ RsI w s wr k T v) (fun _ i _ => s.size - (intOf i).toNat)
 case atStart => exact ⟨0, [], rfl, HI0.out⟩
 case round =>
  obtain ⟨k, T, rfl, hI⟩ := hrel
  have HI : Hid (RsI w s wr k T u4) := hI
  have hks : k <= s.size := hI.le
  have hTk : T.length <= k := hI.tl
  clear hI HI0
  obtain ⟨wo, hwo⟩ : ∃ x : World, x = wr := ⟨_, rfl⟩
  subst hwo
  by_cases hlt : k < s.size
  ·have hdr : s.data.toList.drop k = (s[k]'hlt) :: s.data.toList.drop (k + 1) := Lex.drop_get s.data.toList k (by omega)
   have hbn : blN (s.data.toList.drop k) = if blkB (s[k]'hlt) = true then 1 else if ((s[k]'hlt).toNat : Int) = 35 then run remB (s.data.toList.drop k) else 0 := by rw [hdr]; rfl
   have hrl : k + run remB (s.data.toList.drop k) <= s.size := by have := Lex.run_le remB (s.data.toList.drop k); simp at this; omega
   by_cases hsk : blkB (s[k]'hlt) = true ∨ ((s[k]'hlt).toNat : Int) = 35
   ·have hsum : 0 < blN (s.data.toList.drop k) /\ k + blN (s.data.toList.drop k) <= s.size /\ S (s.data.toList.drop k) k = S (s.data.toList.drop (k + blN (s.data.toList.drop k))) (k + blN (s.data.toList.drop k)) := by
     cases hbk : blkB (s[k]'hlt) with
     | true =>
      rw [hbk, if_pos rfl] at hbn
      rw [hbn]
      refine ⟨by omega, by omega, ?_⟩
      rw [hdr]; exact Lex.S_blank _ k hbk
     | false =>
      have h35 : ((s[k]'hlt).toNat : Int) = 35 := by
       rcases hsk with h | h
       ·rw [hbk] at h; cases h
       ·exact h
      rw [hbk, if_neg (by simp), if_pos h35] at hbn
      rw [hbn]
      refine ⟨?_, hrl, ?_⟩
      ·rw [hdr]; exact Lex.rem_pos _ h35
      ·rw [<- List.drop_drop]
       generalize hx : s.data.toList.drop k = x at *
       rw [hdr]
       exact Lex.S_rem _ k hbk h35
    have HBk : Hid (∀ w', Calls Tryz.prog 136 #[.string s, .int .i64 (k : Int)] w' fun e w2 => e = .returned (.int .i64 ((blN (s.data.toList.drop k) : Nat) : Int)) /\ w2 = w') := fun w' => HB.out k hlt w'
    generalize blN (s.data.toList.drop k) = n at *
    obtain ⟨hn0, hn1, hn2⟩ := hsum
    have HE : Hid (S (s.data.toList.drop k) k = S (s.data.toList.drop (k + n)) (k + n)) := hn2
    have hn0' : (0 : Int) < (n : Int) := by omega
    clear hdr hbn hrl hsk hn2
    go_wp2_with fail
    refine (HBk.out _).mono ?_
    rintro e w1 ⟨rfl, hw1⟩; obtain rfl := hw1.symm
    have HI7 : Hid (RsI w s wo (k + n) T u4) := ⟨hn1, by omega, HI.out.fa, HI.out.own, HI.out.g, by rw [HI.out.eq, HE.out]⟩
    go_wp2
    go_roundw
    case rel => exact ⟨k + n, T, by go_num, HI7.out⟩
    case measure => simp [intOf]; omega
   ·have hbk : blkB (s[k]'hlt) = false := by
     cases h : blkB (s[k]'hlt) with
     | false => rfl
     | true => exact absurd (Or.inl h) hsk
    have h35 : ¬ ((s[k]'hlt).toNat : Int) = 35 := fun h => hsk (Or.inr h)
    rw [hbk, if_neg (by simp), if_neg h35] at hbn
    have HBk : Hid (∀ w', Calls Tryz.prog 136 #[.string s, .int .i64 (k : Int)] w' fun e w2 => e = .returned (.int .i64 0) /\ w2 = w') := fun w' => by have := HB.out k hlt w'; rw [hbn] at this; exact this
    have hr1 : 1 <= Lex.tl (s.data.toList.drop k) := by rw [hdr]; exact Lex.tl_pos _ _
    have hr2 : k + Lex.tl (s.data.toList.drop k) <= s.size := by have := Lex.tl_le (s.data.toList.drop k); simp at this; omega
    have hpz : (Lex.pc (s.data.toList.drop k)).size <= 2000 := by rw [Lex.pc_size]; omega
    have HX : Hid (∀ m, m = k + Lex.tl (s.data.toList.drop k) -> s.extract k m = Lex.pc (s.data.toList.drop k)) := by
     intro m hm
     subst hm
     exact ext_pc s k _ rfl
    have HE1 : Hid (Lex.kd (Lex.pc (s.data.toList.drop k)) = 0 -> (S s.data.toList 0).2 = some k) := by
     intro h
     rw [HI.out.eq]
     rw [hdr] at h ⊢
     rw [Lex.S_bad _ k hbk h35 h]
    have HE2 : Hid (Lex.kd (Lex.pc (s.data.toList.drop k)) ≠ 0 -> S s.data.toList 0 = ((T ++ [⟨Lex.kd (Lex.pc (s.data.toList.drop k)), Lex.pc (s.data.toList.drop k), k⟩]) ++ (S (s.data.toList.drop (k + Lex.tl (s.data.toList.drop k))) (k + Lex.tl (s.data.toList.drop k))).1, (S (s.data.toList.drop (k + Lex.tl (s.data.toList.drop k))) (k + Lex.tl (s.data.toList.drop k))).2)) := by
     intro h
     rw [HI.out.eq, <- List.drop_drop]
     generalize hx : s.data.toList.drop k = x at *
     subst hdr
     rw [Lex.S_tok _ k hbk h35 h]; simp
    have HKD : Hid (Lex.kd (Lex.pc (s.data.toList.drop k)) = if sigB (Lex.pc (s.data.toList.drop k)) = true then 3 else if numB (Lex.pc (s.data.toList.drop k)) = true then 2 else if nameB (Lex.pc (s.data.toList.drop k)) = true then 1 else 0) := rfl
    obtain ⟨u, hu⟩ : ∃ u, (Lex.pc (s.data.toList.drop k)).data.toList = (s[k]'hlt) :: u := by rw [hdr]; exact Lex.pc_cons _ _
    have HNe : Hid (∀ x w', x = Lex.pc (s.data.toList.drop k) -> Calls Tryz.prog 38 #[.string x] w' fun e w2 => e = .returned (.bool (nameB (Lex.pc (s.data.toList.drop k)))) /\ w2 = w') := fun x w' h => by rw [h]; exact HNa.out _ w' hpz
    have HNv : Hid (∀ x w', x = Lex.pc (s.data.toList.drop k) -> Calls Tryz.prog 139 #[.string x] w' fun e w2 => e = .returned (.bool (numB (Lex.pc (s.data.toList.drop k)))) /\ w2 = w') := fun x w' h => by rw [h]; exact HNu.out _ w' hpz
    have HSv : Hid (∀ x w', x = Lex.pc (s.data.toList.drop k) -> Calls Tryz.prog 140 #[.string x] w' fun e w2 => e = .returned (.bool (sigB (Lex.pc (s.data.toList.drop k)))) /\ w2 = w') := fun x w' h => by rw [h]; exact HSi.out _ w'
    have HSk : Hid (∀ w : World, Calls Tryz.prog 137 #[.int .u8 ((s[k]'hlt).toNat : Int)] w fun e w' => e = .returned (.bool (letB (s[k]'hlt))) /\ w' = w) := HSm.out _
    have HDk : Hid (∀ w : World, Calls Tryz.prog 138 #[.int .u8 ((s[k]'hlt).toNat : Int)] w fun e w' => e = .returned (.bool (digB (s[k]'hlt))) /\ w' = w) := HDi.out _
    have HTl : Hid (∀ (p : UInt8 -> Bool) (m : Nat), (∀ u, Lex.tl ((s[k]'hlt) :: u) = run p u + 1) -> k + 1 <= m -> m <= s.size -> (∀ j (hj : j < s.size), k + 1 <= j -> j < m -> p (s[j]'hj) = true) -> (∀ hm : m < s.size, p (s[m]'hm) = false) -> m = k + Lex.tl (s.data.toList.drop k)) := by
     intro p m ht h1 h2 ha he
     rw [hdr, ht]
     have := Lex.run_eq p (s.data.toList.drop (k + 1)) (m - (k + 1)) (by rw [List.length_drop, hl0]; omega)
      (fun j hj hjl => by rw [List.getElem_drop]; exact ha (k + 1 + j) (by rw [List.length_drop, hl0] at hj; omega) (by omega) (by omega))
      (fun hjl => by
       rw [List.length_drop, hl0] at hjl
       rw [List.getElem_drop]
       have e : k + 1 + (m - (k + 1)) = m := by omega
       simp only [e]
       exact he (by omega))
     omega
    clear hdr hbn hbk h35 hsk hrl HB HNa HNu HSi
    generalize Lex.pc (s.data.toList.drop k) = px at *
    generalize k + Lex.tl (s.data.toList.drop k) = kn at *
    clear hr1
    have hw1 : wrap64 ((k : Int) + 1) = ((k + 1 : Nat) : Int) := by unfold wrap64; omega
    cases hlt1 : letB (s[k]'hlt) with
    | true =>
     obtain ⟨b3, b2⟩ := Lex.head_let px hu hlt1
     have hdg1 : digB (s[k]'hlt) = false := by
      cases h : digB (s[k]'hlt) with
      | false => rfl
      | true => rw [Act.dig_let h] at hlt1; cases hlt1
     have HT1 : Hid (∀ u, Lex.tl ((s[k]'hlt) :: u) = run sgnB u + 1) := fun u => by rw [Lex.tl, if_pos hlt1]
     clear hu
     go_wp2_with fail
     refine (HBk.out _).mono ?_
     rintro e w1 ⟨rfl, hw1⟩; obtain rfl := hw1.symm
     go_wp2_with fail
     refine (HSk.out _).mono ?_
     rintro e w1 ⟨rfl, hw1⟩; obtain rfl := hw1.symm
     rw [hlt1]
     go_wp2
     go_loop [7] (fun t => ∃ m : Nat, k + 1 <= m /\ m <= s.size /\ t = .int .i64 (m : Int) /\ ∀ j (hj : j < s.size), k + 1 <= j -> j < m -> sgnB (s[j]'hj) = true) (fun t => s.size - (intOf t).toNat)
     case atStart => exact ⟨k + 1, by omega, by omega, rfl, fun j _ h1 h2 => absurd h2 (by omega)⟩
     case round =>
      obtain ⟨m, hm1, hm2, rfl, hall⟩ := hrel
      have HA : Hid (∀ j (hj : j < s.size), k + 1 <= j -> j < m -> sgnB (s[j]'hj) = true) := hall
      clear hall
      by_cases hml : m < s.size
      ·cases hpm : sgnB (s[m]'hml) with
       | true =>
        have HS : Hid (sgnB (s[m]'hml) = true) := hpm
        cases hlm : letB (s[m]'hml) with
        | true =>
         go_wp2_with fail
         refine (HSm.out (s[m]'hml) _).mono ?_
         rintro e w1 ⟨rfl, hw1⟩; obtain rfl := hw1.symm
         rw [hlm]
         go_wp2
         go_round
         case rel => exact ⟨m + 1, by omega, by omega, by go_num, fun j hj h1 h2 => if e : j = m then by subst e; exact HS.out else HA.out j hj h1 (by omega)⟩
         case measure => simp [intOf]; omega
        | false =>
         have hdm : digB (s[m]'hml) = true := by unfold Act.sgnB at hpm; rw [hlm] at hpm; simpa using hpm
         go_wp2_with fail
         refine (HSm.out (s[m]'hml) _).mono ?_
         rintro e w1 ⟨rfl, hw1⟩; obtain rfl := hw1.symm
         rw [hlm]
         go_wp2_with fail
         refine (HDi.out (s[m]'hml) _).mono ?_
         rintro e w1 ⟨rfl, hw1⟩; obtain rfl := hw1.symm
         rw [hdm]
         go_wp2
         go_round
         case rel => exact ⟨m + 1, by omega, by omega, by go_num, fun j hj h1 h2 => if e : j = m then by subst e; exact HS.out else HA.out j hj h1 (by omega)⟩
         case measure => simp [intOf]; omega
       | false =>
        have HM : Hid (m = kn) := HTl.out sgnB m HT1.out hm1 hm2 HA.out (fun _ => hpm)
        have hlm : letB (s[m]'hml) = false := by unfold Act.sgnB at hpm; rw [Bool.or_eq_false_iff] at hpm; exact hpm.1
        have hdm : digB (s[m]'hml) = false := by unfold Act.sgnB at hpm; rw [Bool.or_eq_false_iff] at hpm; exact hpm.2
        cases b1 : nameB px with
        | true =>
         go_wp2_with fail
         refine (HSm.out (s[m]'hml) _).mono ?_
         rintro e w1 ⟨rfl, hw1⟩; obtain rfl := hw1.symm
         rw [hlm]
         go_wp2_with fail
         refine (HDi.out (s[m]'hml) _).mono ?_
         rintro e w1 ⟨rfl, hw1⟩; obtain rfl := hw1.symm
         rw [hdm]
         have HKK : Hid (m = kn) := HM.out
         have HXX : Hid (s.extract k m = px) := HX.out m HKK.out
         have i1 : ((m : Nat) : Int) <= (s.size : Int) := by omega
         have i2 : (k : Int) <= ((m : Nat) : Int) := by omega
         go_wp2_with fail
         refine (HDk.out _).mono ?_
         rintro e w1 ⟨rfl, hw1⟩; obtain rfl := hw1.symm
         rw [hdg1]
         go_wp2_with fail
         refine (HNe.out (s.extract k m) _ HXX.out).mono ?_
         rintro e w1 ⟨rfl, hw1⟩; obtain rfl := hw1.symm
         rw [b1]
         go_wp2_with fail
         refine (HNv.out (s.extract k m) _ HXX.out).mono ?_
         rintro e w1 ⟨rfl, hw1⟩; obtain rfl := hw1.symm
         rw [b2]
         go_wp2_with fail
         refine (HSv.out (s.extract k m) _ HXX.out).mono ?_
         rintro e w1 ⟨rfl, hw1⟩; obtain rfl := hw1.symm
         rw [b3]
         have hkv : Lex.kd px = 1 := by rw [HKD.out, b1, b2, b3]; rfl
         have HE : Hid (S s.data.toList 0 = ((T ++ [⟨1, px, k⟩]) ++ (S (s.data.toList.drop kn) kn).1, (S (s.data.toList.drop kn) kn).2)) := by show _ = _; have := HE2.out (by rw [hkv]; decide); rw [hkv] at this; exact this
         have HO5 : Hid (World.ownsRow (wo.alloc (.cells #[.int .i64 1, .string (s.extract k m), .int .i64 (k : Int)] 167)) (w.heap.size + 1) 167 3 u4 T.length (tokV T)) := HI.out.own.alloc _
         have HN5 : Hid (∀ j u, (tokV [⟨1, s.extract k m, k⟩])[j]? = some u -> (wo.alloc (.cells #[.int .i64 1, .string (s.extract k m), .int .i64 (k : Int)] 167)).cell? ((⟨wo.heap.size, 0, none⟩ : Addr).add j) = some u) := toks_lit1 wo ⟨1, s.extract k m, k⟩ 167
         have HF5 : Hid (FaAt (wo.alloc (.cells #[.int .i64 1, .string (s.extract k m), .int .i64 (k : Int)] 167)) w.heap.size 0 0) := HI.out.fa.gr (Gr.refl _).alloc
         have HG5 : Hid (Gr w (wo.alloc (.cells #[.int .i64 1, .string (s.extract k m), .int .i64 (k : Int)] 167))) := HI.out.g.alloc
         have hwz : w.heap.size + 1 <= (wo.alloc (.cells #[.int .i64 1, .string (s.extract k m), .int .i64 (k : Int)] 167)).heap.size := by have := HI.out.fa.lt; simp; omega
         clear hkv
         go_wp2_with (first
          | (at_builtin; refine wpList_append_own _ rfl _ _ 161 rfl (w.heap.size + 1) 167 i0 (.agg #[.int .i64 0, .string ⟨#[]⟩, .int .i64 0]) 3 32 Tryz.underlying161 hi hz0 hz1 hz2 rfl (by decide) _ _ _ rfl HO5.out ⟨wo.heap.size, 0, none⟩ 1 1 (tokV [⟨1, s.extract k m, k⟩]) rfl rfl HN5.out (tokV_one _) (by unfold maxLen; omega) (by omega) hwz ?_)
          | fail)
         intro v6 w6 ho6 hgr6 _
         have HI7 : Hid (RsI w s w6 kn (T ++ [⟨1, px, k⟩]) v6) := by
          refine ⟨hr2, by rw [List.length_append, List.length_singleton]; have := HKK.out; omega, HF5.out.grown hgr6 (fun e => by have := (HO5.out.lt _ e.symm).1; omega), ?_, HG5.out.grown hgr6 (fun g e => by have := (HO5.out.lt g e).1; omega), HE.out⟩
          rw [List.length_append, List.length_singleton, tokV_app, <- HXX.out]
          exact ho6
         clear ho6 hgr6 HF5 HO5 HN5 HG5
         have hkk := HKK.out
         subst hkk
         go_wp2
         go_roundw
         case rel => exact ⟨_, _, by first | rfl | go_num, HI7.out⟩
         case measure => simp [intOf]; omega
        | false =>
         go_wp2_with fail
         refine (HSm.out (s[m]'hml) _).mono ?_
         rintro e w1 ⟨rfl, hw1⟩; obtain rfl := hw1.symm
         rw [hlm]
         go_wp2_with fail
         refine (HDi.out (s[m]'hml) _).mono ?_
         rintro e w1 ⟨rfl, hw1⟩; obtain rfl := hw1.symm
         rw [hdm]
         have HKK : Hid (m = kn) := HM.out
         have HXX : Hid (s.extract k m = px) := HX.out m HKK.out
         have i1 : ((m : Nat) : Int) <= (s.size : Int) := by omega
         have i2 : (k : Int) <= ((m : Nat) : Int) := by omega
         go_wp2_with fail
         refine (HDk.out _).mono ?_
         rintro e w1 ⟨rfl, hw1⟩; obtain rfl := hw1.symm
         rw [hdg1]
         go_wp2_with fail
         refine (HNe.out (s.extract k m) _ HXX.out).mono ?_
         rintro e w1 ⟨rfl, hw1⟩; obtain rfl := hw1.symm
         rw [b1]
         go_wp2_with fail
         refine (HNv.out (s.extract k m) _ HXX.out).mono ?_
         rintro e w1 ⟨rfl, hw1⟩; obtain rfl := hw1.symm
         rw [b2]
         go_wp2_with fail
         refine (HSv.out (s.extract k m) _ HXX.out).mono ?_
         rintro e w1 ⟨rfl, hw1⟩; obtain rfl := hw1.symm
         rw [b3]
         have HEn : Hid (RF = 80 /\ RA = k /\ RT = []) := HN.out (HE1.out (by rw [HKD.out, b1, b2, b3]; rfl))
         obtain ⟨r0, r1, f0, f1, rl⟩ := HI.out.fa
         go_wp2
         obtain ⟨y1, y2, y3⟩ := HEn.out
         rw [y1, y2, y3]
         refine bodyPost_ret (v := .tuple #[.slice none 0 0, .agg #[.int .i64 80, .int .i64 (k : Int)]]) (by simp [results, Tryz.results118, go_sem, *]) rfl ⟨none, 0, rfl, by simp, ToksAt.nil, (fun a e => by cases e), ?_⟩
         have hg1 := HI.out.g
         exact (by (with_reducible repeat' (first | exact Gr.refl _ | refine Gr.set ?_ _ ?_ _ | refine Gr.alloc ?_ | refine Gr.drew ?_ | refine Gr.trans ?_ (by assumption))) <;> (first | (simp; done) | (simp; omega) | omega))
      ·have HM : Hid (m = kn) := HTl.out sgnB m HT1.out hm1 hm2 HA.out (fun h => absurd h hml)
       cases b1 : nameB px with
       | true =>
        have HKK : Hid (m = kn) := HM.out
        have HXX : Hid (s.extract k m = px) := HX.out m HKK.out
        have i1 : ((m : Nat) : Int) <= (s.size : Int) := by omega
        have i2 : (k : Int) <= ((m : Nat) : Int) := by omega
        go_wp2_with fail
        refine (HDk.out _).mono ?_
        rintro e w1 ⟨rfl, hw1⟩; obtain rfl := hw1.symm
        rw [hdg1]
        go_wp2_with fail
        refine (HNe.out (s.extract k m) _ HXX.out).mono ?_
        rintro e w1 ⟨rfl, hw1⟩; obtain rfl := hw1.symm
        rw [b1]
        go_wp2_with fail
        refine (HNv.out (s.extract k m) _ HXX.out).mono ?_
        rintro e w1 ⟨rfl, hw1⟩; obtain rfl := hw1.symm
        rw [b2]
        go_wp2_with fail
        refine (HSv.out (s.extract k m) _ HXX.out).mono ?_
        rintro e w1 ⟨rfl, hw1⟩; obtain rfl := hw1.symm
        rw [b3]
        have hkv : Lex.kd px = 1 := by rw [HKD.out, b1, b2, b3]; rfl
        have HE : Hid (S s.data.toList 0 = ((T ++ [⟨1, px, k⟩]) ++ (S (s.data.toList.drop kn) kn).1, (S (s.data.toList.drop kn) kn).2)) := by show _ = _; have := HE2.out (by rw [hkv]; decide); rw [hkv] at this; exact this
        have HO5 : Hid (World.ownsRow (wo.alloc (.cells #[.int .i64 1, .string (s.extract k m), .int .i64 (k : Int)] 167)) (w.heap.size + 1) 167 3 u4 T.length (tokV T)) := HI.out.own.alloc _
        have HN5 : Hid (∀ j u, (tokV [⟨1, s.extract k m, k⟩])[j]? = some u -> (wo.alloc (.cells #[.int .i64 1, .string (s.extract k m), .int .i64 (k : Int)] 167)).cell? ((⟨wo.heap.size, 0, none⟩ : Addr).add j) = some u) := toks_lit1 wo ⟨1, s.extract k m, k⟩ 167
        have HF5 : Hid (FaAt (wo.alloc (.cells #[.int .i64 1, .string (s.extract k m), .int .i64 (k : Int)] 167)) w.heap.size 0 0) := HI.out.fa.gr (Gr.refl _).alloc
        have HG5 : Hid (Gr w (wo.alloc (.cells #[.int .i64 1, .string (s.extract k m), .int .i64 (k : Int)] 167))) := HI.out.g.alloc
        have hwz : w.heap.size + 1 <= (wo.alloc (.cells #[.int .i64 1, .string (s.extract k m), .int .i64 (k : Int)] 167)).heap.size := by have := HI.out.fa.lt; simp; omega
        clear hkv
        go_wp2_with (first
         | (at_builtin; refine wpList_append_own _ rfl _ _ 161 rfl (w.heap.size + 1) 167 i0 (.agg #[.int .i64 0, .string ⟨#[]⟩, .int .i64 0]) 3 32 Tryz.underlying161 hi hz0 hz1 hz2 rfl (by decide) _ _ _ rfl HO5.out ⟨wo.heap.size, 0, none⟩ 1 1 (tokV [⟨1, s.extract k m, k⟩]) rfl rfl HN5.out (tokV_one _) (by unfold maxLen; omega) (by omega) hwz ?_)
         | fail)
        intro v6 w6 ho6 hgr6 _
        have HI7 : Hid (RsI w s w6 kn (T ++ [⟨1, px, k⟩]) v6) := by
         refine ⟨hr2, by rw [List.length_append, List.length_singleton]; have := HKK.out; omega, HF5.out.grown hgr6 (fun e => by have := (HO5.out.lt _ e.symm).1; omega), ?_, HG5.out.grown hgr6 (fun g e => by have := (HO5.out.lt g e).1; omega), HE.out⟩
         rw [List.length_append, List.length_singleton, tokV_app, <- HXX.out]
         exact ho6
        clear ho6 hgr6 HF5 HO5 HN5 HG5
        have hkk := HKK.out
        subst hkk
        go_wp2
        go_roundw
        case rel => exact ⟨_, _, by first | rfl | go_num, HI7.out⟩
        case measure => simp [intOf]; omega
       | false =>
        have HKK : Hid (m = kn) := HM.out
        have HXX : Hid (s.extract k m = px) := HX.out m HKK.out
        have i1 : ((m : Nat) : Int) <= (s.size : Int) := by omega
        have i2 : (k : Int) <= ((m : Nat) : Int) := by omega
        go_wp2_with fail
        refine (HDk.out _).mono ?_
        rintro e w1 ⟨rfl, hw1⟩; obtain rfl := hw1.symm
        rw [hdg1]
        go_wp2_with fail
        refine (HNe.out (s.extract k m) _ HXX.out).mono ?_
        rintro e w1 ⟨rfl, hw1⟩; obtain rfl := hw1.symm
        rw [b1]
        go_wp2_with fail
        refine (HNv.out (s.extract k m) _ HXX.out).mono ?_
        rintro e w1 ⟨rfl, hw1⟩; obtain rfl := hw1.symm
        rw [b2]
        go_wp2_with fail
        refine (HSv.out (s.extract k m) _ HXX.out).mono ?_
        rintro e w1 ⟨rfl, hw1⟩; obtain rfl := hw1.symm
        rw [b3]
        have HEn : Hid (RF = 80 /\ RA = k /\ RT = []) := HN.out (HE1.out (by rw [HKD.out, b1, b2, b3]; rfl))
        obtain ⟨r0, r1, f0, f1, rl⟩ := HI.out.fa
        go_wp2
        obtain ⟨y1, y2, y3⟩ := HEn.out
        rw [y1, y2, y3]
        refine bodyPost_ret (v := .tuple #[.slice none 0 0, .agg #[.int .i64 80, .int .i64 (k : Int)]]) (by simp [results, Tryz.results118, go_sem, *]) rfl ⟨none, 0, rfl, by simp, ToksAt.nil, (fun a e => by cases e), ?_⟩
        have hg1 := HI.out.g
        exact (by (with_reducible repeat' (first | exact Gr.refl _ | refine Gr.set ?_ _ ?_ _ | refine Gr.alloc ?_ | refine Gr.drew ?_ | refine Gr.trans ?_ (by assumption))) <;> (first | (simp; done) | (simp; omega) | omega))
    | false =>
     cases hdg1 : digB (s[k]'hlt) with
     | true =>
      obtain ⟨b3, b1⟩ := Lex.head_dig px hu hdg1
      have HT1 : Hid (∀ u, Lex.tl ((s[k]'hlt) :: u) = run digB u + 1) := fun u => by rw [Lex.tl, if_neg (by rw [hlt1]; simp), if_pos hdg1]
      clear hu
      go_wp2_with fail
      refine (HBk.out _).mono ?_
      rintro e w1 ⟨rfl, hw1⟩; obtain rfl := hw1.symm
      go_wp2_with fail
      refine (HSk.out _).mono ?_
      rintro e w1 ⟨rfl, hw1⟩; obtain rfl := hw1.symm
      rw [hlt1]
      go_wp2_with fail
      refine (HDk.out _).mono ?_
      rintro e w1 ⟨rfl, hw1⟩; obtain rfl := hw1.symm
      rw [hdg1]
      go_wp2
      go_loop [7] (fun t => ∃ m : Nat, k + 1 <= m /\ m <= s.size /\ t = .int .i64 (m : Int) /\ ∀ j (hj : j < s.size), k + 1 <= j -> j < m -> digB (s[j]'hj) = true) (fun t => s.size - (intOf t).toNat)
      case atStart => exact ⟨k + 1, by omega, by omega, rfl, fun j _ h1 h2 => absurd h2 (by omega)⟩
      case round =>
       obtain ⟨m, hm1, hm2, rfl, hall⟩ := hrel
       have HA : Hid (∀ j (hj : j < s.size), k + 1 <= j -> j < m -> digB (s[j]'hj) = true) := hall
       clear hall
       by_cases hml : m < s.size
       ·cases hpm : digB (s[m]'hml) with
        | true =>
         have HS : Hid (digB (s[m]'hml) = true) := hpm
         go_wp2_with fail
         refine (HDi.out (s[m]'hml) _).mono ?_
         rintro e w1 ⟨rfl, hw1⟩; obtain rfl := hw1.symm
         rw [hpm]
         go_wp2
         go_round
         case rel => exact ⟨m + 1, by omega, by omega, by go_num, fun j hj h1 h2 => if e : j = m then by subst e; exact HS.out else HA.out j hj h1 (by omega)⟩
         case measure => simp [intOf]; omega
        | false =>
         have HM : Hid (m = kn) := HTl.out digB m HT1.out hm1 hm2 HA.out (fun _ => hpm)
         cases b2 : numB px with
         | true =>
          go_wp2_with fail
          refine (HDi.out (s[m]'hml) _).mono ?_
          rintro e w1 ⟨rfl, hw1⟩; obtain rfl := hw1.symm
          rw [hpm]
          have HKK : Hid (m = kn) := HM.out
          have HXX : Hid (s.extract k m = px) := HX.out m HKK.out
          have i1 : ((m : Nat) : Int) <= (s.size : Int) := by omega
          have i2 : (k : Int) <= ((m : Nat) : Int) := by omega
          go_wp2_with fail
          refine (HNe.out (s.extract k m) _ HXX.out).mono ?_
          rintro e w1 ⟨rfl, hw1⟩; obtain rfl := hw1.symm
          rw [b1]
          go_wp2_with fail
          refine (HNv.out (s.extract k m) _ HXX.out).mono ?_
          rintro e w1 ⟨rfl, hw1⟩; obtain rfl := hw1.symm
          rw [b2]
          go_wp2_with fail
          refine (HSv.out (s.extract k m) _ HXX.out).mono ?_
          rintro e w1 ⟨rfl, hw1⟩; obtain rfl := hw1.symm
          rw [b3]
          have hkv : Lex.kd px = 2 := by rw [HKD.out, b1, b2, b3]; rfl
          have HE : Hid (S s.data.toList 0 = ((T ++ [⟨2, px, k⟩]) ++ (S (s.data.toList.drop kn) kn).1, (S (s.data.toList.drop kn) kn).2)) := by show _ = _; have := HE2.out (by rw [hkv]; decide); rw [hkv] at this; exact this
          have HO5 : Hid (World.ownsRow (wo.alloc (.cells #[.int .i64 2, .string (s.extract k m), .int .i64 (k : Int)] 167)) (w.heap.size + 1) 167 3 u4 T.length (tokV T)) := HI.out.own.alloc _
          have HN5 : Hid (∀ j u, (tokV [⟨2, s.extract k m, k⟩])[j]? = some u -> (wo.alloc (.cells #[.int .i64 2, .string (s.extract k m), .int .i64 (k : Int)] 167)).cell? ((⟨wo.heap.size, 0, none⟩ : Addr).add j) = some u) := toks_lit1 wo ⟨2, s.extract k m, k⟩ 167
          have HF5 : Hid (FaAt (wo.alloc (.cells #[.int .i64 2, .string (s.extract k m), .int .i64 (k : Int)] 167)) w.heap.size 0 0) := HI.out.fa.gr (Gr.refl _).alloc
          have HG5 : Hid (Gr w (wo.alloc (.cells #[.int .i64 2, .string (s.extract k m), .int .i64 (k : Int)] 167))) := HI.out.g.alloc
          have hwz : w.heap.size + 1 <= (wo.alloc (.cells #[.int .i64 2, .string (s.extract k m), .int .i64 (k : Int)] 167)).heap.size := by have := HI.out.fa.lt; simp; omega
          clear hkv
          go_wp2_with (first
           | (at_builtin; refine wpList_append_own _ rfl _ _ 161 rfl (w.heap.size + 1) 167 i0 (.agg #[.int .i64 0, .string ⟨#[]⟩, .int .i64 0]) 3 32 Tryz.underlying161 hi hz0 hz1 hz2 rfl (by decide) _ _ _ rfl HO5.out ⟨wo.heap.size, 0, none⟩ 1 1 (tokV [⟨2, s.extract k m, k⟩]) rfl rfl HN5.out (tokV_one _) (by unfold maxLen; omega) (by omega) hwz ?_)
           | fail)
          intro v6 w6 ho6 hgr6 _
          have HI7 : Hid (RsI w s w6 kn (T ++ [⟨2, px, k⟩]) v6) := by
           refine ⟨hr2, by rw [List.length_append, List.length_singleton]; have := HKK.out; omega, HF5.out.grown hgr6 (fun e => by have := (HO5.out.lt _ e.symm).1; omega), ?_, HG5.out.grown hgr6 (fun g e => by have := (HO5.out.lt g e).1; omega), HE.out⟩
           rw [List.length_append, List.length_singleton, tokV_app, <- HXX.out]
           exact ho6
          clear ho6 hgr6 HF5 HO5 HN5 HG5
          have hkk := HKK.out
          subst hkk
          go_wp2
          go_roundw
          case rel => exact ⟨_, _, by first | rfl | go_num, HI7.out⟩
          case measure => simp [intOf]; omega
         | false =>
          go_wp2_with fail
          refine (HDi.out (s[m]'hml) _).mono ?_
          rintro e w1 ⟨rfl, hw1⟩; obtain rfl := hw1.symm
          rw [hpm]
          have HKK : Hid (m = kn) := HM.out
          have HXX : Hid (s.extract k m = px) := HX.out m HKK.out
          have i1 : ((m : Nat) : Int) <= (s.size : Int) := by omega
          have i2 : (k : Int) <= ((m : Nat) : Int) := by omega
          go_wp2_with fail
          refine (HNe.out (s.extract k m) _ HXX.out).mono ?_
          rintro e w1 ⟨rfl, hw1⟩; obtain rfl := hw1.symm
          rw [b1]
          go_wp2_with fail
          refine (HNv.out (s.extract k m) _ HXX.out).mono ?_
          rintro e w1 ⟨rfl, hw1⟩; obtain rfl := hw1.symm
          rw [b2]
          go_wp2_with fail
          refine (HSv.out (s.extract k m) _ HXX.out).mono ?_
          rintro e w1 ⟨rfl, hw1⟩; obtain rfl := hw1.symm
          rw [b3]
          have HEn : Hid (RF = 80 /\ RA = k /\ RT = []) := HN.out (HE1.out (by rw [HKD.out, b1, b2, b3]; rfl))
          obtain ⟨r0, r1, f0, f1, rl⟩ := HI.out.fa
          go_wp2
          obtain ⟨y1, y2, y3⟩ := HEn.out
          rw [y1, y2, y3]
          refine bodyPost_ret (v := .tuple #[.slice none 0 0, .agg #[.int .i64 80, .int .i64 (k : Int)]]) (by simp [results, Tryz.results118, go_sem, *]) rfl ⟨none, 0, rfl, by simp, ToksAt.nil, (fun a e => by cases e), ?_⟩
          have hg1 := HI.out.g
          exact (by (with_reducible repeat' (first | exact Gr.refl _ | refine Gr.set ?_ _ ?_ _ | refine Gr.alloc ?_ | refine Gr.drew ?_ | refine Gr.trans ?_ (by assumption))) <;> (first | (simp; done) | (simp; omega) | omega))
       ·have HM : Hid (m = kn) := HTl.out digB m HT1.out hm1 hm2 HA.out (fun h => absurd h hml)
        cases b2 : numB px with
        | true =>
         have HKK : Hid (m = kn) := HM.out
         have HXX : Hid (s.extract k m = px) := HX.out m HKK.out
         have i1 : ((m : Nat) : Int) <= (s.size : Int) := by omega
         have i2 : (k : Int) <= ((m : Nat) : Int) := by omega
         go_wp2_with fail
         refine (HNe.out (s.extract k m) _ HXX.out).mono ?_
         rintro e w1 ⟨rfl, hw1⟩; obtain rfl := hw1.symm
         rw [b1]
         go_wp2_with fail
         refine (HNv.out (s.extract k m) _ HXX.out).mono ?_
         rintro e w1 ⟨rfl, hw1⟩; obtain rfl := hw1.symm
         rw [b2]
         go_wp2_with fail
         refine (HSv.out (s.extract k m) _ HXX.out).mono ?_
         rintro e w1 ⟨rfl, hw1⟩; obtain rfl := hw1.symm
         rw [b3]
         have hkv : Lex.kd px = 2 := by rw [HKD.out, b1, b2, b3]; rfl
         have HE : Hid (S s.data.toList 0 = ((T ++ [⟨2, px, k⟩]) ++ (S (s.data.toList.drop kn) kn).1, (S (s.data.toList.drop kn) kn).2)) := by show _ = _; have := HE2.out (by rw [hkv]; decide); rw [hkv] at this; exact this
         have HO5 : Hid (World.ownsRow (wo.alloc (.cells #[.int .i64 2, .string (s.extract k m), .int .i64 (k : Int)] 167)) (w.heap.size + 1) 167 3 u4 T.length (tokV T)) := HI.out.own.alloc _
         have HN5 : Hid (∀ j u, (tokV [⟨2, s.extract k m, k⟩])[j]? = some u -> (wo.alloc (.cells #[.int .i64 2, .string (s.extract k m), .int .i64 (k : Int)] 167)).cell? ((⟨wo.heap.size, 0, none⟩ : Addr).add j) = some u) := toks_lit1 wo ⟨2, s.extract k m, k⟩ 167
         have HF5 : Hid (FaAt (wo.alloc (.cells #[.int .i64 2, .string (s.extract k m), .int .i64 (k : Int)] 167)) w.heap.size 0 0) := HI.out.fa.gr (Gr.refl _).alloc
         have HG5 : Hid (Gr w (wo.alloc (.cells #[.int .i64 2, .string (s.extract k m), .int .i64 (k : Int)] 167))) := HI.out.g.alloc
         have hwz : w.heap.size + 1 <= (wo.alloc (.cells #[.int .i64 2, .string (s.extract k m), .int .i64 (k : Int)] 167)).heap.size := by have := HI.out.fa.lt; simp; omega
         clear hkv
         go_wp2_with (first
          | (at_builtin; refine wpList_append_own _ rfl _ _ 161 rfl (w.heap.size + 1) 167 i0 (.agg #[.int .i64 0, .string ⟨#[]⟩, .int .i64 0]) 3 32 Tryz.underlying161 hi hz0 hz1 hz2 rfl (by decide) _ _ _ rfl HO5.out ⟨wo.heap.size, 0, none⟩ 1 1 (tokV [⟨2, s.extract k m, k⟩]) rfl rfl HN5.out (tokV_one _) (by unfold maxLen; omega) (by omega) hwz ?_)
          | fail)
         intro v6 w6 ho6 hgr6 _
         have HI7 : Hid (RsI w s w6 kn (T ++ [⟨2, px, k⟩]) v6) := by
          refine ⟨hr2, by rw [List.length_append, List.length_singleton]; have := HKK.out; omega, HF5.out.grown hgr6 (fun e => by have := (HO5.out.lt _ e.symm).1; omega), ?_, HG5.out.grown hgr6 (fun g e => by have := (HO5.out.lt g e).1; omega), HE.out⟩
          rw [List.length_append, List.length_singleton, tokV_app, <- HXX.out]
          exact ho6
         clear ho6 hgr6 HF5 HO5 HN5 HG5
         have hkk := HKK.out
         subst hkk
         go_wp2
         go_roundw
         case rel => exact ⟨_, _, by first | rfl | go_num, HI7.out⟩
         case measure => simp [intOf]; omega
        | false =>
         have HKK : Hid (m = kn) := HM.out
         have HXX : Hid (s.extract k m = px) := HX.out m HKK.out
         have i1 : ((m : Nat) : Int) <= (s.size : Int) := by omega
         have i2 : (k : Int) <= ((m : Nat) : Int) := by omega
         go_wp2_with fail
         refine (HNe.out (s.extract k m) _ HXX.out).mono ?_
         rintro e w1 ⟨rfl, hw1⟩; obtain rfl := hw1.symm
         rw [b1]
         go_wp2_with fail
         refine (HNv.out (s.extract k m) _ HXX.out).mono ?_
         rintro e w1 ⟨rfl, hw1⟩; obtain rfl := hw1.symm
         rw [b2]
         go_wp2_with fail
         refine (HSv.out (s.extract k m) _ HXX.out).mono ?_
         rintro e w1 ⟨rfl, hw1⟩; obtain rfl := hw1.symm
         rw [b3]
         have HEn : Hid (RF = 80 /\ RA = k /\ RT = []) := HN.out (HE1.out (by rw [HKD.out, b1, b2, b3]; rfl))
         obtain ⟨r0, r1, f0, f1, rl⟩ := HI.out.fa
         go_wp2
         obtain ⟨y1, y2, y3⟩ := HEn.out
         rw [y1, y2, y3]
         refine bodyPost_ret (v := .tuple #[.slice none 0 0, .agg #[.int .i64 80, .int .i64 (k : Int)]]) (by simp [results, Tryz.results118, go_sem, *]) rfl ⟨none, 0, rfl, by simp, ToksAt.nil, (fun a e => by cases e), ?_⟩
         have hg1 := HI.out.g
         exact (by (with_reducible repeat' (first | exact Gr.refl _ | refine Gr.set ?_ _ ?_ _ | refine Gr.alloc ?_ | refine Gr.drew ?_ | refine Gr.trans ?_ (by assumption))) <;> (first | (simp; done) | (simp; omega) | omega))
     | false =>
      obtain ⟨b2, b1⟩ := Lex.head_else px hu hlt1 hdg1
      have HM : Hid (k + 1 = kn) := HTl.out (fun _ => false) (k + 1) (fun u => by rw [Lex.tl_one u hlt1 hdg1]; cases u <;> rfl) (by omega) (by omega) (fun j _ h1 h2 => absurd h2 (by omega)) (fun _ => rfl)
      clear hu
      cases b3 : sigB px with
      | true =>
       go_wp2_with fail
       refine (HBk.out _).mono ?_
       rintro e w1 ⟨rfl, hw1⟩; obtain rfl := hw1.symm
       go_wp2_with fail
       refine (HSk.out _).mono ?_
       rintro e w1 ⟨rfl, hw1⟩; obtain rfl := hw1.symm
       rw [hlt1]
       have HKK : Hid ((k + 1) = kn) := HM.out
       have HXX : Hid (s.extract k (k + 1) = px) := HX.out (k + 1) HKK.out
       have i1 : (((k + 1) : Nat) : Int) <= (s.size : Int) := by omega
       have i2 : (k : Int) <= (((k + 1) : Nat) : Int) := by omega
       go_wp2_with fail
       refine (HDk.out _).mono ?_
       rintro e w1 ⟨rfl, hw1⟩; obtain rfl := hw1.symm
       rw [hdg1]
       go_wp2_with fail
       refine (HNe.out (s.extract k (k + 1)) _ HXX.out).mono ?_
       rintro e w1 ⟨rfl, hw1⟩; obtain rfl := hw1.symm
       rw [b1]
       go_wp2_with fail
       refine (HNv.out (s.extract k (k + 1)) _ HXX.out).mono ?_
       rintro e w1 ⟨rfl, hw1⟩; obtain rfl := hw1.symm
       rw [b2]
       go_wp2_with fail
       refine (HSv.out (s.extract k (k + 1)) _ HXX.out).mono ?_
       rintro e w1 ⟨rfl, hw1⟩; obtain rfl := hw1.symm
       rw [b3]
       have hkv : Lex.kd px = 3 := by rw [HKD.out, b1, b2, b3]; rfl
       have HE : Hid (S s.data.toList 0 = ((T ++ [⟨3, px, k⟩]) ++ (S (s.data.toList.drop kn) kn).1, (S (s.data.toList.drop kn) kn).2)) := by show _ = _; have := HE2.out (by rw [hkv]; decide); rw [hkv] at this; exact this
       have HO5 : Hid (World.ownsRow (wo.alloc (.cells #[.int .i64 3, .string (s.extract k (k + 1)), .int .i64 (k : Int)] 167)) (w.heap.size + 1) 167 3 u4 T.length (tokV T)) := HI.out.own.alloc _
       have HN5 : Hid (∀ j u, (tokV [⟨3, s.extract k (k + 1), k⟩])[j]? = some u -> (wo.alloc (.cells #[.int .i64 3, .string (s.extract k (k + 1)), .int .i64 (k : Int)] 167)).cell? ((⟨wo.heap.size, 0, none⟩ : Addr).add j) = some u) := toks_lit1 wo ⟨3, s.extract k (k + 1), k⟩ 167
       have HF5 : Hid (FaAt (wo.alloc (.cells #[.int .i64 3, .string (s.extract k (k + 1)), .int .i64 (k : Int)] 167)) w.heap.size 0 0) := HI.out.fa.gr (Gr.refl _).alloc
       have HG5 : Hid (Gr w (wo.alloc (.cells #[.int .i64 3, .string (s.extract k (k + 1)), .int .i64 (k : Int)] 167))) := HI.out.g.alloc
       have hwz : w.heap.size + 1 <= (wo.alloc (.cells #[.int .i64 3, .string (s.extract k (k + 1)), .int .i64 (k : Int)] 167)).heap.size := by have := HI.out.fa.lt; simp; omega
       clear hkv
       go_wp2_with (first
        | (at_builtin; refine wpList_append_own _ rfl _ _ 161 rfl (w.heap.size + 1) 167 i0 (.agg #[.int .i64 0, .string ⟨#[]⟩, .int .i64 0]) 3 32 Tryz.underlying161 hi hz0 hz1 hz2 rfl (by decide) _ _ _ rfl HO5.out ⟨wo.heap.size, 0, none⟩ 1 1 (tokV [⟨3, s.extract k (k + 1), k⟩]) rfl rfl HN5.out (tokV_one _) (by unfold maxLen; omega) (by omega) hwz ?_)
        | fail)
       intro v6 w6 ho6 hgr6 _
       have HI7 : Hid (RsI w s w6 kn (T ++ [⟨3, px, k⟩]) v6) := by
        refine ⟨hr2, by rw [List.length_append, List.length_singleton]; have := HKK.out; omega, HF5.out.grown hgr6 (fun e => by have := (HO5.out.lt _ e.symm).1; omega), ?_, HG5.out.grown hgr6 (fun g e => by have := (HO5.out.lt g e).1; omega), HE.out⟩
        rw [List.length_append, List.length_singleton, tokV_app, <- HXX.out]
        exact ho6
       clear ho6 hgr6 HF5 HO5 HN5 HG5
       have hkk := HKK.out
       subst hkk
       go_wp2
       go_roundw
       case rel => exact ⟨_, _, by first | rfl | go_num, HI7.out⟩
       case measure => simp [intOf]; omega
      | false =>
       go_wp2_with fail
       refine (HBk.out _).mono ?_
       rintro e w1 ⟨rfl, hw1⟩; obtain rfl := hw1.symm
       go_wp2_with fail
       refine (HSk.out _).mono ?_
       rintro e w1 ⟨rfl, hw1⟩; obtain rfl := hw1.symm
       rw [hlt1]
       have HKK : Hid ((k + 1) = kn) := HM.out
       have HXX : Hid (s.extract k (k + 1) = px) := HX.out (k + 1) HKK.out
       have i1 : (((k + 1) : Nat) : Int) <= (s.size : Int) := by omega
       have i2 : (k : Int) <= (((k + 1) : Nat) : Int) := by omega
       go_wp2_with fail
       refine (HDk.out _).mono ?_
       rintro e w1 ⟨rfl, hw1⟩; obtain rfl := hw1.symm
       rw [hdg1]
       go_wp2_with fail
       refine (HNe.out (s.extract k (k + 1)) _ HXX.out).mono ?_
       rintro e w1 ⟨rfl, hw1⟩; obtain rfl := hw1.symm
       rw [b1]
       go_wp2_with fail
       refine (HNv.out (s.extract k (k + 1)) _ HXX.out).mono ?_
       rintro e w1 ⟨rfl, hw1⟩; obtain rfl := hw1.symm
       rw [b2]
       go_wp2_with fail
       refine (HSv.out (s.extract k (k + 1)) _ HXX.out).mono ?_
       rintro e w1 ⟨rfl, hw1⟩; obtain rfl := hw1.symm
       rw [b3]
       have HEn : Hid (RF = 80 /\ RA = k /\ RT = []) := HN.out (HE1.out (by rw [HKD.out, b1, b2, b3]; rfl))
       obtain ⟨r0, r1, f0, f1, rl⟩ := HI.out.fa
       go_wp2
       obtain ⟨y1, y2, y3⟩ := HEn.out
       rw [y1, y2, y3]
       refine bodyPost_ret (v := .tuple #[.slice none 0 0, .agg #[.int .i64 80, .int .i64 (k : Int)]]) (by simp [results, Tryz.results118, go_sem, *]) rfl ⟨none, 0, rfl, by simp, ToksAt.nil, (fun a e => by cases e), ?_⟩
       have hg1 := HI.out.g
       exact (by (with_reducible repeat' (first | exact Gr.refl _ | refine Gr.set ?_ _ ?_ _ | refine Gr.alloc ?_ | refine Gr.drew ?_ | refine Gr.trans ?_ (by assumption))) <;> (first | (simp; done) | (simp; omega) | omega))
  ·obtain rfl : k = s.size := by omega
   have HE : Hid (S s.data.toList 0 = (T ++ [⟨0, ⟨#[]⟩, ((s.size : Nat) : Int)⟩], none)) := by
    show _ = _
    rw [HI.out.eq, List.drop_eq_nil_of_le (by omega), Lex.S_nil]
   have HO5 : Hid (World.ownsRow (wo.alloc (.cells #[.int .i64 0, .string ⟨#[]⟩, .int .i64 ((s.size : Nat) : Int)] 167)) (w.heap.size + 1) 167 3 u4 T.length (tokV T)) := HI.out.own.alloc _
   have HN5 : Hid (∀ j u, (tokV [⟨0, ⟨#[]⟩, ((s.size : Nat) : Int)⟩])[j]? = some u -> (wo.alloc (.cells #[.int .i64 0, .string ⟨#[]⟩, .int .i64 ((s.size : Nat) : Int)] 167)).cell? ((⟨wo.heap.size, 0, none⟩ : Addr).add j) = some u) := toks_lit1 wo ⟨0, ⟨#[]⟩, ((s.size : Nat) : Int)⟩ 167
   have HF5 : Hid (FaAt (wo.alloc (.cells #[.int .i64 0, .string ⟨#[]⟩, .int .i64 ((s.size : Nat) : Int)] 167)) w.heap.size 0 0) := HI.out.fa.gr (Gr.refl _).alloc
   have HG5 : Hid (Gr w (wo.alloc (.cells #[.int .i64 0, .string ⟨#[]⟩, .int .i64 ((s.size : Nat) : Int)] 167))) := HI.out.g.alloc
   have hwz : w.heap.size + 1 <= (wo.alloc (.cells #[.int .i64 0, .string ⟨#[]⟩, .int .i64 ((s.size : Nat) : Int)] 167)).heap.size := by have := HI.out.fa.lt; simp; omega
   go_wp2_with (first
    | (at_builtin; refine wpList_append_own _ rfl _ _ 161 rfl (w.heap.size + 1) 167 i0 (.agg #[.int .i64 0, .string ⟨#[]⟩, .int .i64 0]) 3 32 Tryz.underlying161 hi hz0 hz1 hz2 rfl (by decide) _ _ _ rfl HO5.out ⟨wo.heap.size, 0, none⟩ 1 1 (tokV [⟨0, ⟨#[]⟩, ((s.size : Nat) : Int)⟩]) rfl rfl HN5.out (tokV_one _) (by unfold maxLen; omega) (by omega) hwz ?_)
    | fail)
   intro v6 w6 ho6 hgr6 _
   obtain ⟨a6, c6, rfl, hc6, htk, hfr⟩ := own_toks (L := T ++ [⟨0, ⟨#[]⟩, ((s.size : Nat) : Int)⟩]) (by rw [List.length_append, tokV_app]; exact ho6)
   have HT6 : Hid (ToksAt w6 a6 (T ++ [⟨0, ⟨#[]⟩, ((s.size : Nat) : Int)⟩])) := htk
   have HFR : Hid (∀ a, a6 = some a -> w.heap.size + 1 <= a.block) := hfr
   rw [List.length_append, List.length_singleton] at *
   have HF6 : Hid (FaAt w6 w.heap.size 0 0) := HF5.out.grown hgr6 (fun e => by have := (HO5.out.lt _ e.symm).1; omega)
   have HG6 : Hid (Gr w w6) := HG5.out.grown hgr6 (fun g e => by have := (HO5.out.lt g e).1; omega)
   obtain ⟨r0, r1, f0, f1, rl⟩ := HF6.out
   obtain ⟨y1, y2, y3⟩ := HY.out (by rw [HE.out])
   have HR : Hid (RF = 0 /\ RA = 0 /\ RT = T ++ [⟨0, ⟨#[]⟩, ((s.size : Nat) : Int)⟩]) := ⟨y1, y2, by rw [y3, HE.out]⟩
   clear ho6 hgr6 htk hfr HF5 HO5 HN5 HG5 y1 y2 y3
   go_wp2
   obtain ⟨y1, y2, y3⟩ := HR.out
   rw [y1, y2, y3]
   refine bodyPost_ret (v := .tuple #[.slice a6 (T.length + 1) c6, .agg #[.int .i64 0, .int .i64 0]]) (by simp [results, Tryz.results118, go_sem, *]) rfl ⟨a6, c6, by rw [List.length_append, List.length_singleton], by rw [List.length_append, List.length_singleton]; exact hc6, ?_, (fun a e => by have := HFR.out a e; omega), ?_⟩
   ·exact (HT6.out.setFar _ _ (fun a e => by have := HFR.out a e; simp; omega)).setFar _ _ (fun a e => by have := HFR.out a e; simp; omega)
   ·have hg1 := HG6.out
    exact (by (with_reducible repeat' (first | exact Gr.refl _ | refine Gr.set ?_ _ ?_ _ | refine Gr.alloc ?_ | refine Gr.drew ?_ | refine Gr.trans ?_ (by assumption))) <;> (first | (simp; done) | (simp; omega) | omega))
end Go.Proofs.YthaadiclopoamaaGreatDoor
