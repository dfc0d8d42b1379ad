
/- The statements' own: played, find. -/
import Derived.Test.YtpnlebegenkdkaaDkK
namespace Go.Proofs.Ytpnlebegenkdkaa
open Go.RowKit Go.Maps
open Dk (Fl Fo St Ok Up zf emp used cutF fallA kf)

def plS (s : St) (x : Ac) : St :=
  if x.k = 0 then Dk.appS s x.n x.d else if x.k = 1 then Dk.stpS s 1 x.n 0 else if x.k = 2 then Dk.stpS s 2 x.n x.z else if x.k = 3 then Dk.stpS s 3 x.n 0
  else if x.k = 4 then Dk.armS s x.z x.K else if x.k = 5 then Dk.craS s x.K else Dk.booS s
def plL (s : St) (T : List Ac) : St := T.foldl plS s
theorem plL_snoc (s : St) (T : List Ac) (x : Ac) : plL s (T ++ [x]) = plS (plL s T) x := by simp [plL, List.foldl_append]
theorem plL_succ (s : St) (T : List Ac) (k : Nat) (h : k < T.length) : plL s (T.take (k + 1)) = plS (plL s (T.take k)) T[k] := by rw [List.take_succ_eq_append_getElem h, plL_snoc]
theorem pl0 {s : St} {x : Ac} (h : x.k = 0) : plS s x = Dk.appS s x.n x.d := by unfold plS; rw [if_pos h]
theorem pl1 {s : St} {x : Ac} (h : x.k = 1) : plS s x = Dk.stpS s 1 x.n 0 := by unfold plS; rw [if_neg (by omega), if_pos h]
theorem pl2 {s : St} {x : Ac} (h : x.k = 2) : plS s x = Dk.stpS s 2 x.n x.z := by unfold plS; rw [if_neg (by omega), if_neg (by omega), if_pos h]
theorem pl3 {s : St} {x : Ac} (h : x.k = 3) : plS s x = Dk.stpS s 3 x.n 0 := by unfold plS; rw [if_neg (by omega), if_neg (by omega), if_neg (by omega), if_pos h]
theorem pl4 {s : St} {x : Ac} (h : x.k = 4) : plS s x = Dk.armS s x.z x.K := by unfold plS; rw [if_neg (by omega), if_neg (by omega), if_neg (by omega), if_neg (by omega), if_pos h]
theorem pl5 {s : St} {x : Ac} (h : x.k = 5) : plS s x = Dk.craS s x.K := by unfold plS; rw [if_neg (by omega), if_neg (by omega), if_neg (by omega), if_neg (by omega), if_neg (by omega), if_pos h]
theorem pl6 {s : St} {x : Ac} (h0 : ¬ x.k = 0) (h1 : ¬ x.k = 1) (h2 : ¬ x.k = 2) (h3 : ¬ x.k = 3) (h4 : ¬ x.k = 4) (h5 : ¬ x.k = 5) : plS s x = Dk.booS s := by unfold plS; rw [if_neg h0, if_neg h1, if_neg h2, if_neg h3, if_neg h4, if_neg h5]
abbrev acC (x : Ac) : Obj := .cells #[.int .i64 x.k, .int .i64 x.n, .int .i64 x.z, .string x.d, .slice x.ka x.K.length x.kc] 35
set_option maxHeartbeats 8000000 in
set_option maxRecDepth 100000 in
theorem played_any (room : Int) (T : List Ac) (ad : Option Addr) (cap : Nat) (w : World) (hT : Acts w ad T) (h0 : 0 ≤ room) (h1 : room ≤ 200000) :
    Calls Try.prog 29 #[.int .i64 room, .slice ad T.length cap] w fun e w' => ∃ b m, e = .returned (ptr b) ∧ New w w' b m (plL (Dk.new room []) T) := by
  have HN : Hid (Calls Try.prog 11 #[.int .i64 room] w fun e w' => ∃ b m, e = .returned (.tuple #[ptr b, .int .i64 0]) ∧ New w w' b m (Dk.new room [])) := by
    refine (new_any room w (by omega)).mono ?_
    intro e w' h
    unfold LdR at h
    rw [show mayL room [] = true by simp [mayL, mayA, h0, h1]] at h
    exact h
  have HT := Lib.hid hT
  have hln := hT.len
  clear hT
  go_enter Try.func29, Try.ntmps29
  go_wp2_with fail
  refine HN.out.mono ?_
  rintro e w0 ⟨b, m, rfl, hn⟩
  have N0 := Lib.hid hn
  clear hn HN
  go_wp2
  go_loopw [7] (fun i wr => ∃ (k : Nat), k ≤ T.length ∧ i = .int .i64 (k : Int) ∧ New w wr b m (plL (Dk.new room []) (T.take k))) (fun i _ => T.length - (intOf i).toNat)
  case atStart => exact ⟨0, Nat.zero_le _, rfl, N0.out⟩
  case round =>
    obtain ⟨k, hk, rfl, hn⟩ := hrel
    by_cases hlt : k < T.length
    · obtain ⟨x, off, hade, hxb, c0, c1, c2, c3, c4⟩ := ac_at HT.out.row k hlt
      have c0 := hn.gr.keep c0
      have c1 := hn.gr.keep c1
      have c2 := hn.gr.keep c2
      have c3 := hn.gr.keep c3
      have c4 := hn.gr.keep c4
      have HA := Lib.hid ((HT.out.each _ (List.getElem_mem hlt)).gr hn.gr)
      have HS := Lib.hid (plL_succ (Dk.new room []) T k hlt)
      have HW := Lib.hid (hn.up ((Gr.refl wr).alloc (o := acC T[k])))
      have HKr := Lib.hid (HA.out.row.gr ((Gr.refl wr).alloc (o := acC T[k])))
      subst hade
      clear hn N0
      generalize T[k] = y at *
      generalize plL (Dk.new room []) (T.take k) = s at *
      obtain ⟨s', es⟩ : ∃ s', s' = plL (Dk.new room []) (T.take (k + 1)) := ⟨_, rfl⟩
      rw [← es] at HS
      have HE := Lib.hid es
      clear es
      by_cases p0 : y.k = 0
      · have HC : Hid (Calls Try.prog 18 #[ptr b, .int .i64 y.n, .string y.d] (wr.alloc (acC y)) fun e w' => ∃ v, e = .returned (.int .i64 v) ∧ New w w' b m s') := by
          have e : s' = Dk.appS s y.n y.d := HS.out.trans (pl0 p0)
          rw [e]
          refine (n_append HW.out y.n y.d).mono ?_
          rintro e2 w2 ⟨rfl, q⟩
          exact ⟨_, rfl, q⟩
        clear HS HA HKr HW
        obtain ⟨yk, yn, yz, yd, ya, yc, yK⟩ := y
        simp only at *
        subst p0
        go_wp2_with fail
        refine HC.out.mono ?_
        rintro e w2 ⟨v, rfl, q⟩
        have HQ := Lib.hid q
        clear q HC
        go_wp2
        go_roundw
        case rel => exact ⟨k + 1, by omega, by simp, by rw [← HE.out]; exact HQ.out⟩
        case measure => simp [intOf]; omega
      by_cases p1 : y.k = 1
      · have HC : Hid (Calls Try.prog 19 #[ptr b, .int .i64 y.n] (wr.alloc (acC y)) fun e w' => ∃ v, e = .returned (.int .i64 v) ∧ New w w' b m s') := by
          have e : s' = Dk.stpS s 1 y.n 0 := HS.out.trans (pl1 p1)
          rw [e]
          refine (n_sync HW.out HA.out.n0 HA.out.n1).mono ?_
          rintro e2 w2 ⟨rfl, q⟩
          exact ⟨_, rfl, q⟩
        clear HS HA HKr HW
        obtain ⟨yk, yn, yz, yd, ya, yc, yK⟩ := y
        simp only at *
        subst p1
        go_wp2_with fail
        refine HC.out.mono ?_
        rintro e w2 ⟨v, rfl, q⟩
        have HQ := Lib.hid q
        clear q HC
        go_wp2
        go_roundw
        case rel => exact ⟨k + 1, by omega, by simp, by rw [← HE.out]; exact HQ.out⟩
        case measure => simp [intOf]; omega
      by_cases p2 : y.k = 2
      · have HC : Hid (Calls Try.prog 20 #[ptr b, .int .i64 y.n, .int .i64 y.z] (wr.alloc (acC y)) fun e w' => ∃ v, e = .returned (.int .i64 v) ∧ New w w' b m s') := by
          have e : s' = Dk.stpS s 2 y.n y.z := HS.out.trans (pl2 p2)
          rw [e]
          refine (n_cut HW.out HA.out.n0 HA.out.n1 y.z).mono ?_
          rintro e2 w2 ⟨rfl, q⟩
          exact ⟨_, rfl, q⟩
        clear HS HA HKr HW
        obtain ⟨yk, yn, yz, yd, ya, yc, yK⟩ := y
        simp only at *
        subst p2
        go_wp2_with fail
        refine HC.out.mono ?_
        rintro e w2 ⟨v, rfl, q⟩
        have HQ := Lib.hid q
        clear q HC
        go_wp2
        go_roundw
        case rel => exact ⟨k + 1, by omega, by simp, by rw [← HE.out]; exact HQ.out⟩
        case measure => simp [intOf]; omega
      by_cases p3 : y.k = 3
      · have HC : Hid (Calls Try.prog 21 #[ptr b, .int .i64 y.n] (wr.alloc (acC y)) fun e w' => ∃ v, e = .returned (.int .i64 v) ∧ New w w' b m s') := by
          have e : s' = Dk.stpS s 3 y.n 0 := HS.out.trans (pl3 p3)
          rw [e]
          refine (n_remove HW.out HA.out.n0 HA.out.n1).mono ?_
          rintro e2 w2 ⟨rfl, q⟩
          exact ⟨_, rfl, q⟩
        clear HS HA HKr HW
        obtain ⟨yk, yn, yz, yd, ya, yc, yK⟩ := y
        simp only at *
        subst p3
        go_wp2_with fail
        refine HC.out.mono ?_
        rintro e w2 ⟨v, rfl, q⟩
        have HQ := Lib.hid q
        clear q HC
        go_wp2
        go_roundw
        case rel => exact ⟨k + 1, by omega, by simp, by rw [← HE.out]; exact HQ.out⟩
        case measure => simp [intOf]; omega
      by_cases p4 : y.k = 4
      · have HC : Hid (Calls Try.prog 22 #[ptr b, .int .i64 y.z, .slice y.ka y.K.length y.kc] (wr.alloc (acC y)) fun e w' => ∃ v, e = .returned (.int .i64 v) ∧ New w w' b m s') := by
          have e : s' = Dk.armS s y.z y.K := HS.out.trans (pl4 p4)
          rw [e]
          refine (n_arm HW.out HA.out.z1 HKr.out).mono ?_
          rintro e2 w2 ⟨rfl, q⟩
          exact ⟨_, rfl, q⟩
        clear HS HA HKr HW
        obtain ⟨yk, yn, yz, yd, ya, yc, yK⟩ := y
        simp only at *
        subst p4
        go_wp2_with fail
        refine HC.out.mono ?_
        rintro e w2 ⟨v, rfl, q⟩
        have HQ := Lib.hid q
        clear q HC
        go_wp2
        go_roundw
        case rel => exact ⟨k + 1, by omega, by simp, by rw [← HE.out]; exact HQ.out⟩
        case measure => simp [intOf]; omega
      by_cases p5 : y.k = 5
      · have HC : Hid (Calls Try.prog 23 #[ptr b, .slice y.ka y.K.length y.kc] (wr.alloc (acC y)) fun e w' => ∃ v, e = .returned (.int .i64 v) ∧ New w w' b m s') := by
          have e : s' = Dk.craS s y.K := HS.out.trans (pl5 p5)
          rw [e]
          refine (n_crash HW.out HKr.out).mono ?_
          rintro e2 w2 ⟨rfl, q⟩
          exact ⟨_, rfl, q⟩
        clear HS HA HKr HW
        obtain ⟨yk, yn, yz, yd, ya, yc, yK⟩ := y
        simp only at *
        subst p5
        go_wp2_with fail
        refine HC.out.mono ?_
        rintro e w2 ⟨v, rfl, q⟩
        have HQ := Lib.hid q
        clear q HC
        go_wp2
        go_roundw
        case rel => exact ⟨k + 1, by omega, by simp, by rw [← HE.out]; exact HQ.out⟩
        case measure => simp [intOf]; omega
      have HC : Hid (Calls Try.prog 24 #[ptr b] (wr.alloc (acC y)) fun e w' => ∃ v, e = .returned (.int .i64 v) ∧ New w w' b m s') := by
        have e : s' = Dk.booS s := HS.out.trans (pl6 p0 p1 p2 p3 p4 p5)
        rw [e]
        refine (n_boot HW.out).mono ?_
        rintro e2 w2 ⟨rfl, q⟩
        exact ⟨_, rfl, q⟩
      clear HS HA HKr HW
      have q0 : (y.k == 0) = false := by simpa using p0
      have q1 : (y.k == 1) = false := by simpa using p1
      have q2 : (y.k == 2) = false := by simpa using p2
      have q3 : (y.k == 3) = false := by simpa using p3
      have q4 : (y.k == 4) = false := by simpa using p4
      have q5 : (y.k == 5) = false := by simpa using p5
      obtain ⟨yk, yn, yz, yd, ya, yc, yK⟩ := y
      simp only at *
      go_wp2_with fail
      refine HC.out.mono ?_
      rintro e w2 ⟨v, rfl, q⟩
      have HQ := Lib.hid q
      clear q HC
      go_wp2
      go_roundw
      case rel => exact ⟨k + 1, by omega, by simp, by rw [← HE.out]; exact HQ.out⟩
      case measure => simp [intOf]; omega
    · obtain rfl : k = T.length := by omega
      rw [List.take_length] at hn
      have HF := Lib.hid hn
      clear hn
      go_wp2
      go_ret
      exact ⟨b, m, rfl, HF.out⟩
/- find -/
theorem get_first {L : List Fl} {k : Nat} (hlt : k < L.length) (hne : ∀ f ∈ L.take k, f.n ≠ L[k].n) : Dk.get L L[k].n = L[k] ∧ Dk.has L L[k].n = true := by
  refine ⟨?_, Dk.has_of (List.getElem_mem hlt)⟩
  have e : L.take k ++ L[k] :: L.drop (k + 1) = L := by rw [← List.drop_eq_getElem_cons hlt, List.take_append_drop]
  unfold Dk.get
  generalize L[k] = f at *
  rw [← e, List.find?_append, List.find?_eq_none.2 (fun g hg => by simpa using hne g hg), List.find?_cons_of_pos (by simp)]
  rfl
set_option maxHeartbeats 8000000 in
set_option maxRecDepth 100000 in
theorem find15_any (L : List Fl) (n : Int) (ad : Option Addr) (cap : Nat) (w : World) (hL : RowAt flf w ad L) (hn : L.length ≤ 1000) :
    Calls Try.prog 30 #[.slice ad L.length cap, .int .i64 n] w fun e w' => e = .returned (.tuple #[flV (Dk.get L n), .bool (Dk.has L n)]) ∧ Gr w w' := by
  have HL := Lib.hid (hL.gr ((Gr.refl w).alloc (o := .cells #[.int .i64 0, .string ⟨#[]⟩, .int .i64 0] 40)))
  clear hL
  go_enter Try.func30, Try.ntmps30
  go_wp2
  go_loopw [6] (fun i wr => ∃ (k : Nat), k ≤ L.length ∧ i = .int .i64 (k : Int) ∧ (∀ f ∈ L.take k, f.n ≠ n) ∧ wr = w.alloc (.cells #[.int .i64 0, .string ⟨#[]⟩, .int .i64 0] 40)) (fun i _ => L.length - (intOf i).toNat)
  case atStart => exact ⟨0, Nat.zero_le _, rfl, by simp, rfl⟩
  case round =>
    obtain ⟨k, hk, rfl, hne, rfl⟩ := hrel
    by_cases hlt : k < L.length
    · obtain ⟨x, off, hade, hxb, c0, c1, c2⟩ := fl_at HL.out k hlt
      have HNe := Lib.hid hne
      subst hade
      by_cases he : L[k].n = n
      · have HG : Hid (Dk.get L n = L[k] ∧ Dk.has L n = true) := by
          subst he
          exact get_first hlt hne
        clear hne HNe
        generalize L[k] = f at *
        obtain ⟨fn, fd, fy⟩ := f
        simp only at *
        subst he
        go_wp2
        exact bodyPost_ret (v := .tuple #[.agg #[.int .i64 fn, .string fd, .int .i64 fy], .bool true]) (by simp [results, Try.results30, go_sem]) rfl ⟨by rw [HG.out.1, HG.out.2], (by (repeat' (first | with_reducible exact Gr.refl _ | with_reducible refine Gr.set ?_ _ ?_ _ | with_reducible refine Gr.alloc ?_ | with_reducible refine Gr.drew ?_ | with_reducible refine Gr.trans ?_ (by assumption))) <;> (first | (simp; done) | (simp; omega) | omega))⟩
      · have heb : (L[k].n == n) = false := by simpa using he
        have HN2 : Hid (∀ f ∈ L.take (k + 1), f.n ≠ n) := by
          intro f hf
          rw [List.take_succ_eq_append_getElem hlt] at hf
          rcases List.mem_append.1 hf with hf | hf
          · exact hne f hf
          · rw [List.mem_singleton] at hf; rw [hf]; exact he
        clear hne HNe
        generalize L[k] = f at *
        obtain ⟨fn, fd, fy⟩ := f
        simp only at *
        go_wp2
        go_roundw
        case rel => exact ⟨k + 1, by omega, by simp, HN2.out, by trivial⟩
        case measure => simp [intOf]; omega
    · obtain rfl : k = L.length := by omega
      rw [List.take_length] at hne
      have HG : Hid (Dk.get L n = zf 0 ∧ Dk.has L n = false) := ⟨Dk.get_not (Dk.has_false hne), Dk.has_false hne⟩
      clear hne
      go_wp2
      exact bodyPost_ret (v := .tuple #[.agg #[.int .i64 0, .string ⟨#[]⟩, .int .i64 0], .bool false]) (by simp [results, Try.results30, go_sem]) rfl ⟨by rw [HG.out.1, HG.out.2], (by (repeat' (first | with_reducible exact Gr.refl _ | with_reducible refine Gr.set ?_ _ ?_ _ | with_reducible refine Gr.alloc ?_ | with_reducible refine Gr.drew ?_ | with_reducible refine Gr.trans ?_ (by assumption))) <;> (first | (simp; done) | (simp; omega) | omega))⟩
end Go.Proofs.Ytpnlebegenkdkaa
