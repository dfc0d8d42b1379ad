/- lexic: Check. -/
import Derived.Test.YtdliljijgokpjaaDoorLexQ
import Derived.Test.YtdliljijgokpjaaDoorLexN
namespace Go.Proofs.YtdliljijgokpjaaDoor
open Go.RowKit
open Lex (Tok ckE okT endT szs jz)

theorem slice_low (ad : Option Addr) (n cap c : Nat) (hc : c ≤ n) (hn : n ≤ cap) (W : World) :
    (Instr.sliceAt 35 (.slice ad n cap) none (some (.int .i64 c)) none).run Tryd.prog W = .ok (.slice ad c cap) W := by
  have h1 : (c : Int) ≤ cap := by omega
  go_simp

set_option maxHeartbeats 4000000 in
set_option maxRecDepth 100000 in
theorem check_any (T : List Tok) (ad : Option Addr) (cap : Nat) (w : World) (hT : ToksAt w ad T) (hc : T.length ≤ cap) (hn : T.length ≤ 5000) (hz : ∀ x ∈ T, x.t.size ≤ 9223372036854775807) :
    Calls Tryd.prog 33 #[.slice ad T.length cap] w fun e w' => e = .returned (.int .i64 (ckE T)) ∧ Gr w w' := by
  rcases List.eq_nil_or_concat T with rfl | ⟨I, x, rfl⟩
  · rw [Lex.ck_none]
    go_enter Tryd.func33, Tryd.ntmps33
    go_wp2
    go_ret
    exact ⟨rfl, Gr.refl _⟩
  rw [List.concat_eq_append] at *
  have HK : Hid (ckE (I ++ [x]) = if endT x = true then (if I.all okT = true then (if 2000 < jz I then 3 else 0) else 80) else 80) := Lex.ck_snoc I x
  have hlen : (I ++ [x]).length = I.length + 1 := by simp
  rw [hlen] at hc hn ⊢
  obtain ⟨b, off, rfl, hb, k0, k1, k2⟩ := hT I.length (by rw [hlen]; omega)
  clear k2
  rw [List.getElem_append_right (Nat.le_refl _)] at k0 k1
  simp only [Nat.sub_self, List.getElem_cons_zero] at k0 k1
  have HT : Hid (∀ j (h : j < I.length), w.cell? ⟨b, off + j * 3, none⟩ = some (.int .i64 I[j].k) ∧ w.cell? ⟨b, off + j * 3 + 1, none⟩ = some (.string I[j].t) ∧ w.cell? ⟨b, off + j * 3 + 2, none⟩ = some (.int .i64 I[j].p)) := by
    intro j h
    obtain ⟨b', off', e, _, h1, h2, h3⟩ := hT j (by rw [hlen]; omega)
    cases e
    rw [List.getElem_append_left h] at h1 h2 h3
    exact ⟨h1, h2, h3⟩
  have HZ : Hid (∀ j (h : j < I.length), I[j].t.size ≤ 9223372036854775807) := fun j h => hz _ (by simp)
  have hw1 : wrap64 ((I.length : Int) + 1 - 1) = (I.length : Int) := by unfold wrap64; omega
  have hsl := slice_low (some ⟨b, off, none⟩) (I.length + 1) cap I.length (by omega) hc
  clear hT hz hlen
  have hlt0 : ¬ ((I.length : Int) < 0) := by omega
  by_cases he1 : x.k = 0
  · have e1 : (x.k != 0) = false := by simpa using he1
    have hb0 := text_ne x.t []
    rw [show (⟨[].toArray⟩ : ByteArray) = ⟨#[]⟩ from rfl] at hb0
    by_cases he2 : x.t = ⟨#[]⟩
    · rw [decide_eq_true he2, show (!true) = false from rfl] at hb0
      have hb2 : (x.t.toList == []) = true := by simpa using hb0
      have HK2 : Hid (ckE (I ++ [x]) = if I.all okT = true then (if 2000 < jz I then 3 else 0) else 80) := by
        show _ = _
        rw [HK.out, if_pos]
        unfold Lex.endT
        rw [decide_eq_true he1, decide_eq_true he2]; rfl
      have HM : Hid (∀ (j : Nat) (h : j < I.length) (w' : World), Calls Tryd.prog 53 #[.agg #[.int .i64 I[j].k, .string I[j].t, .int .i64 I[j].p]] w' fun e w2 => e = .returned (.bool (okT I[j])) ∧ Gr w' w2) := fun j h w' => mayBe_any _ _ _ w' (HZ.out j h)
      obtain ⟨z, hzz⟩ : ∃ z : Nat, z = I.length - 1 := ⟨_, rfl⟩
      have hmx : max ((I.length : Int) - 1) 0 = (z : Int) := by omega
      have HB1 : Hid (∀ j, (∀ i (hi : i < I.length), i < j → okT I[i] = true) → j ≤ I.length → szs (I.take j) ≤ 16 * j) := by
        intro j ha hj
        have := Lex.szs_bound (I.take j) (fun y hy => by
          obtain ⟨i, hi, rfl⟩ := List.getElem_of_mem hy
          rw [List.length_take] at hi
          rw [List.getElem_take]
          exact ha i (by omega) (by omega))
        rw [List.length_take] at this
        omega
      clear HK he1 he2
      generalize ckE (I ++ [x]) = CK at *
      go_enter Tryd.func33, Tryd.ntmps33
      go_wp2
      go_loopw [4, 35] (fun z' i' wr => ∃ i : Nat, i ≤ I.length ∧ i' = .int .i64 (i : Int) ∧ z' = .int .i64 ((z + szs (I.take i) : Nat) : Int) ∧ Gr w wr ∧ ∀ j (hj : j < I.length), j < i → okT I[j] = true) (fun _ i' _ => I.length - (intOf i').toNat)
      case atStart => exact ⟨0, by omega, rfl, by simp [Lex.szs]; omega, Gr.refl _, fun j _ h => absurd h (by omega)⟩
      case round =>
        obtain ⟨i, hi, rfl, rfl, hg, ha⟩ := hrel
        have HA : Hid (∀ j (hj : j < I.length), j < i → okT I[j] = true) := ha
        have HG : Hid (Gr w wr) := hg
        have hbd := HB1.out i ha hi
        clear ha hg
        by_cases hlt : i < I.length
        · obtain ⟨c0, c1, c2⟩ := HT.out i hlt
          replace c0 := HG.out.keep c0
          replace c1 := HG.out.keep c1
          replace c2 := HG.out.keep c2
          have hbw : b < wr.heap.size := Nat.lt_of_lt_of_le hb HG.out.size
          go_wp2_with fail
          refine (HM.out i hlt _).mono ?_
          rintro e w2 ⟨rfl, hg2⟩
          have hx1 := (BoxAt.new wr (.int .i64 I[i].k) (.string I[i].t) (.int .i64 I[i].p) 66 _ rfl).gr hg2
          have HG2 : Hid (Gr w w2) := HG.out.trans ((Gr.refl _).alloc.trans hg2)
          obtain ⟨x0, x1, x2, _, _, _, xl⟩ := hx1
          cases hok : okT I[i] with
          | false =>
            have HE : Hid (CK = 80) := by
              show _ = _
              rw [HK2.out, Lex.all_nidx I okT i hlt hok]; rfl
            clear hok
            go_wp2
            go_ret
            exact ⟨by rw [HE.out]; rfl, HG2.out⟩
          | true =>
            have hsz := (Lex.may_size hok).2
            have HS : Hid (okT I[i] = true) := hok
            have HZT : Hid (szs (I.take (i + 1)) = szs (I.take i) + I[i].t.size) := Lex.szs_take I i hlt
            clear hok c0 c1 c2
            generalize szs (I.take i) = za at *
            have hz5 : z ≤ 5000 := by omega
            clear hw1 hsl hmx hzz k0 k1 hb0 hb2 e1
            go_wp2
            go_roundw
            case rel => exact ⟨i + 1, by omega, by go_num, by rw [HZT.out]; congr 1; omega, HG2.out, fun j hj h => if e : j = i then by subst e; exact HS.out else HA.out j hj (by omega)⟩
            case measure => simp [intOf]; omega
        · obtain rfl : i = I.length := by omega
          have hall : I.all okT = true := Lex.all_idx I okT (fun j hj => HA.out j hj hj)
          have HE : Hid (CK = if 2000 < z + szs I then 3 else 0) := by
            show _ = _
            rw [HK2.out, if_pos hall, hzz]
            unfold Lex.jz
            rw [Nat.add_comm]
          rw [List.take_length] at hbd ⊢
          clear hall
          generalize szs I = za at *
          by_cases hbig : 2000 < z + za
          · have hbi : (2000 : Int) < ((z + za : Nat) : Int) := by omega
            rw [if_pos hbig] at HE
            go_wp2
            go_ret
            exact ⟨by rw [HE.out]; rfl, HG.out⟩
          · have hbi : ¬ (2000 : Int) < ((z + za : Nat) : Int) := by omega
            rw [if_neg hbig] at HE
            go_wp2
            go_ret
            exact ⟨by rw [HE.out]; rfl, HG.out⟩
    · have HE : Hid (ckE (I ++ [x]) = 80) := by
        show _ = _
        rw [HK.out, if_neg]
        unfold Lex.endT
        rw [decide_eq_false he2]; simp
      rw [decide_eq_false he2, show (!false) = true from rfl] at hb0
      have hb2 : (x.t.toList == []) = false := by simpa using hb0
      clear HK he2
      generalize ckE (I ++ [x]) = CK at *
      go_enter Tryd.func33, Tryd.ntmps33
      go_wp2
      go_ret
      exact ⟨by rw [HE.out]; rfl, Gr.refl _⟩
  · have HE : Hid (ckE (I ++ [x]) = 80) := by
      show _ = _
      rw [HK.out, if_neg]
      unfold Lex.endT
      rw [decide_eq_false he1]; simp
    have e1 : (x.k != 0) = true := by simpa using he1
    clear HK
    generalize ckE (I ++ [x]) = CK at *
    go_enter Tryd.func33, Tryd.ntmps33
    go_wp2
    go_ret
    exact ⟨by rw [HE.out]; rfl, Gr.refl _⟩
end Go.Proofs.YtdliljijgokpjaaDoor
