/- The statements' own on logs: opened. -/
import Derived.Test.YtojmhhmpmpbpfaaGreatDoorGBA
import Derived.Test.YtojmhhmpmpbpfaaGreatDoorGL
import Derived.Test.YtojmhhmpmpbpfaaGreatDoorOpnW
namespace Go.Proofs.YtojmhhmpmpbpfaaGreatDoor
open Go.RowKit Go.Maps
open Dk (Fl Fo St Ok)
variable {u w w' w1 : World} {b m g : Nat} {s : St} {l : Wl.Lg} {h : Wl.Bo}

theorem Og.pre {ab : Option Addr} (t : Td w w1 b m) (k : Og u w1 w' b m g s l h ab) : Og u w w' b m g s l h ab :=
  ⟨k.lv, k.ro, fun p e => Nat.le_trans t.size (k.fr p e), k.ng, Nat.le_trans t.size k.gw, t.trans k.td⟩
theorem v_boot (k : New u w b m s) : Calls Tryz.prog 40 #[ptr b] w fun e w' => e = .returned (.int .i64 0) ∧ New u w' b m (Dk.booS s) ∧ Td w w' b m := by
  obtain ⟨A, hA⟩ := k.at_
  refine (boot_any hA).mono ?_
  rintro e w' ⟨rfl, r⟩
  exact ⟨rfl, k.far r, r.2⟩
/- what may be met: power, or not -/
def Met (s : St) (r : Wl.Bo) : Prop := ∃ L, Wl.At (Dk.booS s) L ∧ Wl.Pre L r
theorem met_dn {L : List Fl} {r : Wl.Bo} (h : Wl.Dn s L) (hp : Wl.Pre L r) : Met s r := ⟨L, h.boot.1, hp⟩
theorem met_re (hr : Wl.Re s l h) : Met s h := ⟨_, hr.at_.boot, Wl.pre_rest l.n hr.gd⟩
set_option maxHeartbeats 8000000 in
set_option maxRecDepth 100000 in
theorem opened_any {r : Wl.Bo} (k : New u w b m s) (hT : Tab u) (hm : Met s r) (d : ByteArray) (hd : d.size ≤ 140737488355328) :
    Calls Tryz.prog 16 #[ptr b, .string d] w fun e w' => ∃ g ab cb s' l', e = .returned (.tuple #[ptr g, .slice ab r.length cb, .int .i64 0]) ∧ Og u w w' b m g s' l' r ab ∧ Wl.Re s' l' r := by
  have HB : Hid (∀ w1 s1, New u w1 b m s1 → Calls Tryz.prog 40 #[ptr b] w1 fun e w' => e = .returned (.int .i64 0) ∧ New u w' b m (Dk.booS s1) ∧ Td w1 w' b m) := fun w1 s1 q => v_boot q
  have HO : Hid (∀ w1 s1, New u w1 b m s1 → Calls Tryz.prog 8 #[ptr b, .string d] w1 fun e w' => OpI w1 w' b m (Wl.opn s1 d) e ∧ New u w' b m (Wl.opn s1 d).st) := fun w1 s1 q => v_open q hT d hd
  have HK := Lib.hid k
  have HM := Lib.hid hm
  clear k hT hm
  go_enter Tryz.func16, Tryz.ntmps16
  go_wp2
  go_loopw [7] (fun i wr => ∃ (k : Nat) (s1 : St), k ≤ 1 ∧ i = .int .i64 (k : Int) ∧ New u wr b m s1 ∧ Met s1 r ∧ (k = 1 → s1.left = 0) ∧ Td w wr b m) (fun i _ => 20 - (intOf i).toNat)
  case atStart => exact ⟨0, s, by omega, rfl, HK.out, HM.out, (fun e => by omega), Td.refl _ _ _⟩
  case round =>
    obtain ⟨k, s1, hk, rfl, hn1, ⟨L, hat, hp⟩, hlf, ht⟩ := hrel
    have HN1 := Lib.hid hn1
    have HT1 := Lib.hid ht
    have HOp := Lib.hid (Wl.opn_pre hat hp d)
    have hl2 : (Dk.booS s1).left = s1.left := rfl
    have hki : (k : Int) < 20 := by omega
    clear hn1 ht hat hp HK HM
    go_wp2_with fail
    refine (HB.out _ _ HN1.out).mono ?_
    rintro e w2 ⟨rfl, hn2, ht2⟩
    have HN2 := Lib.hid hn2
    have HT2 := Lib.hid (HT1.out.trans ht2)
    have HO2 := Lib.hid (HO.out _ _ hn2)
    clear hn2 ht2 HB HO HN1 HT1
    generalize Wl.opn (Dk.booS s1) d = o at *
    obtain ⟨ol, ob, oe, os⟩ := o
    simp only at *
    rcases HOp.out.ok with ⟨l', q1, q2, q3, q4, q5⟩ | ⟨q1, q2, q3, q4, L', q5, q6⟩
    · simp only at q1 q2 q3 q4 q5
      subst q1 q2 q3
      have HRe := Lib.hid q4
      clear q4 q5 HOp
      go_wp2_with fail
      refine HO2.out.mono ?_
      rintro e w3 ⟨ho, hn3⟩
      obtain ⟨g, ab, cb, rfl, hog⟩ := og_of HN2.out ho rfl
      have HOg := Lib.hid (Og.pre HT2.out hog)
      clear ho hn3 hog HO2
      simp only at *
      go_wp2
      go_ret3
      exact ⟨g, ab, cb, _, l', rfl, HOg.out, HRe.out⟩
    · simp only at q1 q2 q3 q4 q5 q6
      subst q1 q2 q3
      have hk0 : k = 0 := by
        rcases (show k = 0 ∨ k = 1 by omega) with e | e
        · exact e
        · exact absurd (hlf e) q4
      subst hk0
      have HQ : Hid (Met os r ∧ os.left = 0) := ⟨met_dn q5 q6, q5.left⟩
      clear q4 q5 q6 HOp hlf hl2
      go_wp2_with fail
      refine HO2.out.mono ?_
      rintro e w3 ⟨⟨hf, he⟩, hn3⟩
      simp only at he hf hn3
      subst he
      have HN3 := Lib.hid hn3
      have HT3 := Lib.hid (HT2.out.trans hf.2)
      clear hf hn3 HO2
      go_wp2
      go_roundw
      case rel => exact ⟨1, os, by omega, rfl, HN3.out, HQ.out.1, (fun _ => HQ.out.2), HT3.out⟩
      case measure => simp [intOf]
/- a fresh disk -/
set_option maxHeartbeats 8000000 in
set_option maxRecDepth 100000 in
theorem opened_new (k : New u w b m s) (hT : Tab u) (hs : Wl.At s []) (hl : s.left = 0) (d : ByteArray) (hd : d.size ≤ 30000) :
    Calls Tryz.prog 16 #[ptr b, .string d] w fun e w' => (e = .returned (.tuple #[nilP, .slice none 0 0, .int .i64 151]) ∧ Gr u w') ∨ ∃ g ab cb s' l', e = .returned (.tuple #[ptr g, .slice ab 1 cb, .int .i64 0]) ∧ Og u w w' b m g s' l' [d.data.toList] ab ∧ Wl.Re s' l' [d.data.toList] := by
  have HB := Lib.hid (v_boot k)
  have HO : Hid (∀ w1 s1, New u w1 b m s1 → Calls Tryz.prog 8 #[ptr b, .string d] w1 fun e w' => OpI w1 w' b m (Wl.opn s1 d) e ∧ New u w' b m (Wl.opn s1 d).st) := fun w1 s1 q => v_open q hT d (by omega)
  have HNw := Lib.hid (Wl.opn_new (s := Dk.booS s) hs.boot hl d hd)
  clear k hT hs hl
  go_enter Tryz.func16, Tryz.ntmps16
  go_wp2
  go_loopw [7] (fun i wr => i = .int .i64 0 ∧ wr = w) (fun i _ => 20 - (intOf i).toNat)
  case atStart => exact ⟨rfl, rfl⟩
  case round =>
    obtain ⟨rfl, hwr⟩ := hrel
    obtain rfl := hwr.symm
    go_wp2_with fail
    refine HB.out.mono ?_
    rintro e w2 ⟨rfl, hn2, ht2⟩
    have HN2 := Lib.hid hn2
    have HT2 := Lib.hid ht2
    have HO2 := Lib.hid (HO.out _ _ hn2)
    clear hn2 ht2 HB HO
    generalize Wl.opn (Dk.booS s) d = o at *
    obtain ⟨ol, ob, oe, os⟩ := o
    simp only at *
    rcases HNw.out with ⟨q1, q2, q3⟩ | ⟨l', q1, q2, q3, q4, q5, q6⟩
    · subst q1 q2 q3
      clear HNw
      go_wp2_with fail
      refine HO2.out.mono ?_
      rintro e w3 ⟨⟨hf, he⟩, hn3⟩
      simp only at he hf hn3
      subst he
      have HG3 := Lib.hid hn3.gr
      clear hf hn3 HO2
      go_wp2
      go_ret3
      exact Or.inl ⟨rfl, HG3.out⟩
    · subst q1 q2 q3
      have HRe := Lib.hid q4
      clear q4 q5 q6 HNw
      go_wp2_with fail
      refine HO2.out.mono ?_
      rintro e w3 ⟨ho, hn3⟩
      obtain ⟨g, ab, cb, rfl, hog⟩ := og_of HN2.out ho rfl
      have HOg := Lib.hid (Og.pre HT2.out hog)
      clear ho hn3 hog HO2
      simp only at *
      go_wp2
      go_ret3
      exact Or.inr ⟨g, ab, cb, _, l', rfl, HOg.out, HRe.out⟩
end Go.Proofs.YtojmhhmpmpbpfaaGreatDoor
