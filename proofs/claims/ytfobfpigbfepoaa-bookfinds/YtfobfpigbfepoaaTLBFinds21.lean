/- For every input the law BookFinds answers true: any definitions are a book, or not, and have one of a name, or not, as the document says. -/
import Derived.Test.YtfobfpigbfepoaaTLBFinds20
import Derived.Deep.DeepCutAuto
namespace Go.Proofs.Ytfobfpigbfepoaa
open Go.RowKit
theorem stps_kept {w w' : World} {ad : Option Addr} {L : List Df.Stp} {r : Option Nat} (h : StpsAt w ad L) (g : w.grownBy w' r) (hr : L ≠ [] → ∀ a, ad = some a → r ≠ some a.block) : StpsAt w' ad L := by
  intro j u hu
  obtain ⟨b, off, e, hb, h1⟩ := h j u hu
  refine ⟨b, off, e, Nat.lt_of_lt_of_le hb g.size, ?_⟩
  rw [← h1]; exact World.cell?_of_block (w := w) (g.block b hb (fun k => hr (fun hn => by rw [hn] at hu; simp at hu) _ e k.symm))
theorem stps_lt {w : World} {ad : Option Addr} {L : List Df.Stp} (h : StpsAt w ad L) (hn : L ≠ []) {a : Addr} (e : ad = some a) : a.block < w.heap.size := by
  cases L with
  | nil => exact absurd rfl hn
  | cons s t =>
    obtain ⟨b, off, e', hb, _⟩ := h 0 (.int .i64 s.k) rfl
    rw [e] at e'; cases e'
    exact hb
set_option maxHeartbeats 4000000 in
set_option maxRecDepth 100000 in
theorem refFind10_any (D : List Dm) (s : ByteArray) (ad : Option Addr) (cap : Nat) (w : World) (hB : BkAt w ad D) (hn : D.length ≤ 9223372036854775807) :
    Calls Try.prog 9 #[.slice ad D.length cap, .string s] w fun e w' => FnR w (Bk.fnd (dns D) s) (Bk.fndB (dns D) s) e w' := by
  have HM : Hid (∀ w', Gr w w' → Calls Try.prog 11 #[.slice ad D.length cap] w' fun e w2 => e = .returned (.int .i64 (Bk.mayE (dns D))) ∧ Gr w' w2) := fun w' g => refMay_any D ad cap w' (hB.gr g) hn
  have HR0 := Lib.hid (TwoAt.new w (.string ⟨#[]⟩) (.slice none 0 0) 27 _ rfl)
  cases hm : Bk.mayB (dns D) with
  | false =>
    have e1 : Bk.fnd (dns D) s = ⟨⟨#[]⟩, []⟩ := by unfold Bk.fnd; rw [hm]; simp
    have e2 : Bk.fndB (dns D) s = false := by unfold Bk.fndB; rw [hm]; rfl
    rw [e1, e2]
    rw [Bk.may_not hm] at HM
    clear hm e1 e2 hB
    go_enter Try.func9, Try.ntmps9
    go_wp2_with fail
    refine (HM.out _ (by repeat (first | exact Gr.refl _ | refine Gr.alloc ?_ | refine Gr.drew ?_ | refine Gr.trans ?_ (by assumption)))).mono ?_
    rintro e w1 ⟨rfl, hg1⟩
    obtain ⟨c0, c1, f0, f1, lt⟩ := HR0.out.gr hg1
    go_wp2
    refine bodyPost_ret (v := .tuple #[.agg #[.string ⟨#[]⟩, .slice none 0 0], .bool false]) (by simp [results, Try.results9, go_sem, *]) rfl ?_
    exact ⟨none, 0, rfl, RowAt.nil, (by (repeat' (first | with_reducible exact Gr.refl _ | with_reducible refine Gr.set ?_ _ ?_ _ | with_reducible refine Gr.alloc ?_ | with_reducible refine Gr.drew ?_ | with_reducible refine Gr.trans ?_ (by assumption))) <;> (first | (simp; done) | (simp; omega) | omega))⟩
  | true =>
    obtain ⟨m1, m2, m3⟩ := (Bk.may_iff _).1 hm
    rw [dns_len] at m1
    rw [Bk.may_ok hm] at HM
    have HMay : Hid (Bk.mayB (dns D) = true) := hm
    have HB := Lib.hid hB
    clear hm hB m2 m3
    go_enter Try.func9, Try.ntmps9
    go_wp2_with fail
    refine (HM.out _ (by repeat (first | exact Gr.refl _ | refine Gr.alloc ?_ | refine Gr.drew ?_ | refine Gr.trans ?_ (by assumption)))).mono ?_
    rintro e w1 ⟨rfl, hg1⟩
    have HG1 : Hid (Gr w w1) := (by repeat (first | exact Gr.refl _ | refine Gr.alloc ?_ | refine Gr.drew ?_ | refine Gr.trans ?_ (by assumption)))
    have HR1 := Lib.hid (HR0.out.gr hg1)
    clear HM HR0 hg1
    go_wp2
    go_loopw [6] (fun s6 wr => ∃ k : Nat, s6 = .int .i64 k ∧ k ≤ D.length ∧ (∀ j (h : j < D.length), j < k → D[j].nm ≠ s) ∧ wr = w1) (fun s6 _ => D.length - (intOf s6).toNat)
    case atStart => exact ⟨0, rfl, Nat.zero_le _, fun j _ h => absurd h (Nat.not_lt_zero _), rfl⟩
    case round =>
      obtain ⟨k, rfl, hk, hok, rfl⟩ := hrel
      have HK := Lib.hid hok
      clear hok
      by_cases hlt : k < D.length
      · obtain ⟨b, off, rfl, hb, d0, d1⟩ := DmsAt.at HB.out.row k hlt
        have d0 := HG1.out.keep d0
        have d1 := HG1.out.keep d1
        have hbw := Nat.lt_of_lt_of_le hb HG1.out.size
        have hki : (k : Int) < (D.length : Int) := by omega
        have ht := text_eq D[k].nm s.data.toList
        rw [Lex.bytes_list, ← show s.toList = s.data.toList from ByteArray.toList_eq s] at ht
        by_cases hq : D[k].nm = s
        · rw [decide_eq_true hq] at ht
          obtain ⟨f1, f2⟩ := Bk.fnd_at HMay.out k (by rw [dns_len]; exact hlt)
          rw [dns_get D k hlt] at f1 f2
          have e3 : D[k].dn.nm = s := hq
          rw [e3] at f1 f2
          have HF1 := Lib.hid f1
          have HF2 := Lib.hid f2
          have HS := Lib.hid ((HB.out.st _ (List.getElem_mem hlt)).gr HG1.out)
          have HSn : Hid (D[k].L ≠ [] → ∀ a, D[k].ad = some a → a.block < w.heap.size) := by
            intro hne a ea
            exact stps_lt (HB.out.st _ (List.getElem_mem hlt)) hne ea
          obtain ⟨c0, c1, g0, g1, lt⟩ := HR1.out
          clear f1 f2 e3 hq HK
          generalize D[k] = x at *
          obtain ⟨xn, xa, xc, xl⟩ := x
          dsimp only [Dm.dn] at *
          go_wp2
          refine bodyPost_ret (v := .tuple #[.agg #[.string xn, .slice xa xl.length xc], .bool true]) (by simp [results, Try.results9, go_sem, *]) rfl ?_
          rw [HF1.out, HF2.out]
          refine ⟨xa, xc, rfl, ?_, (HG1.out.set _ (by simp) _).set _ (by simp) _⟩
          refine (stps_kept (stps_kept HS.out (grown_set _ ⟨w.heap.size, 0, none⟩ (.string xn)) (fun hn a e k => ?_)) (grown_set _ ⟨w.heap.size, 1, none⟩ (.slice xa xl.length xc)) (fun hn a e k => ?_))
          all_goals (have := HSn.out hn a e; have := Option.some.inj k; simp at this; omega)
        · rw [decide_eq_false hq] at ht
          have HK2 : Hid (∀ j (h : j < D.length), j < k + 1 → D[j].nm ≠ s) := by
            intro j h hj
            by_cases e : j = k
            · subst e; exact hq
            · exact HK.out j h (by omega)
          clear HK hq
          generalize D[k] = x at *
          go_wp2
          go_roundw
          case rel => exact ⟨k + 1, by go_num, by omega, HK2.out, trivial⟩
          case measure => simp [intOf]; omega
      · have hge : ¬ ((k : Int) < (D.length : Int)) := by omega
        have hno : Bk.hasB (Bk.nms (dns D)) s = false := by
          cases e : Bk.hasB (Bk.nms (dns D)) s with
          | false => rfl
          | true =>
            have hm := (Bk.has_iff _ _).1 e
            rw [← nmD_eq] at hm
            obtain ⟨d, hd, rfl⟩ := List.mem_map.1 hm
            obtain ⟨j, hj, rfl⟩ := List.getElem_of_mem hd
            exact absurd rfl (HK.out j hj (by omega))
        have HF1 : Hid (Bk.fnd (dns D) s = ⟨⟨#[]⟩, []⟩) := by show _ = _; unfold Bk.fnd; rw [hno]; simp
        have HF2 : Hid (Bk.fndB (dns D) s = false) := by show _ = _; unfold Bk.fndB; rw [HMay.out, hno]; rfl
        obtain ⟨c0, c1, g0, g1, lt⟩ := HR1.out
        go_wp2
        refine bodyPost_ret (v := .tuple #[.agg #[.string ⟨#[]⟩, .slice none 0 0], .bool false]) (by simp [results, Try.results9, go_sem, *]) rfl ?_
        rw [HF1.out, HF2.out]
        exact ⟨none, 0, rfl, RowAt.nil, (HG1.out.set _ (by simp) _).set _ (by simp) _⟩
end Go.Proofs.Ytfobfpigbfepoaa
namespace Go.Proofs.Ytfobfpigbfepoaa
open Go.RowKit
theorem eqL_refl (L : List Df.Stp) : eqL L L = true := (eqL_iff L L).2 rfl
def fewB (D : List Dm) : Bool := decide (D.length ≤ 100) && D.all (fun d => decide (d.L.length ≤ 100))
theorem few_iff (D : List Dm) : fewB D = true ↔ D.length ≤ 100 ∧ ∀ d ∈ D, d.L.length ≤ 100 := by
  unfold fewB; simp only [Bool.and_eq_true, decide_eq_true_eq, List.all_eq_true]
set_option maxHeartbeats 4000000 in
set_option maxRecDepth 100000 in
theorem few10_any (D : List Dm) (ad : Option Addr) (cap : Nat) (w : World) (hD : DmsAt w ad D) (hn : D.length ≤ 9223372036854775807) (hm : ∀ d ∈ D, d.L.length ≤ 9223372036854775807) :
    Calls Try.prog 6 #[.slice ad D.length cap] w fun e w' => e = .returned (.bool (fewB D)) ∧ Gr w w' := by
  have HD := Lib.hid hD
  have HM := Lib.hid hm
  clear hD hm
  by_cases hl : (100 : Int) < (D.length : Int)
  · have HF : Hid (fewB D = false) := by show _ = _; unfold fewB; rw [decide_eq_false (by omega)]; rfl
    have hl2 : 100 < D.length := by omega
    go_enter Try.func6, Try.ntmps6
    go_wp2
    go_ret
    exact ⟨by (rw [HF.out]) <;> rfl, (by (repeat' (first | with_reducible exact Gr.refl _ | with_reducible refine Gr.set ?_ _ ?_ _ | with_reducible refine Gr.alloc ?_ | with_reducible refine Gr.drew ?_ | with_reducible refine Gr.trans ?_ (by assumption))) <;> (first | (simp; done) | (simp; omega) | omega))⟩
  · have hl2 : ¬ 100 < D.length := by omega
    go_enter Try.func6, Try.ntmps6
    go_wp2
    go_loopw [3] (fun s3 wr => ∃ k : Nat, s3 = .int .i64 k ∧ k ≤ D.length ∧ (∀ j (h : j < D.length), j < k → D[j].L.length ≤ 100) ∧ Gr w wr) (fun s3 _ => D.length - (intOf s3).toNat)
    case atStart => exact ⟨0, rfl, Nat.zero_le _, fun j _ h => absurd h (Nat.not_lt_zero _), Gr.refl _⟩
    case round =>
      obtain ⟨k, rfl, hk, hok, hg⟩ := hrel
      have HG : Hid (Gr w wr) := hg
      have HK := Lib.hid hok
      clear hg hok
      by_cases hlt : k < D.length
      · obtain ⟨b, off, rfl, hb, d0, d1⟩ := DmsAt.at HD.out k hlt
        have d1 := HG.out.keep d1
        have hbw : b < wr.heap.size := Nat.lt_of_lt_of_le hb HG.out.size
        have hki : (k : Int) < (D.length : Int) := by omega
        have hbig := HM.out _ (List.getElem_mem hlt)
        clear d0
        by_cases hq : (100 : Int) < (D[k].L.length : Int)
        · have HF : Hid (fewB D = false) := by
            show _ = _
            cases e : fewB D with
            | false => rfl
            | true => have := ((few_iff D).1 e).2 _ (List.getElem_mem hlt); omega
          have hq2 : 100 < D[k].L.length := by omega
          generalize D[k] = x at *
          go_wp2
          go_ret
          exact ⟨by (rw [HF.out]) <;> rfl, HG.out⟩
        · have hq2 : ¬ 100 < D[k].L.length := by omega
          have HQ : Hid (∀ j (h : j < D.length), j < k + 1 → D[j].L.length ≤ 100) := by
            intro j h hj
            by_cases e : j = k
            · subst e; omega
            · exact HK.out j h (by omega)
          generalize D[k] = x at *
          go_wp2
          go_roundw
          case rel => exact ⟨k + 1, by go_num, by omega, HQ.out, HG.out⟩
          case measure => simp [intOf]; omega
      · have hge : ¬ ((k : Int) < (D.length : Int)) := by omega
        have HF : Hid (fewB D = true) := by
          refine (few_iff D).2 ⟨by omega, fun d hd => ?_⟩
          obtain ⟨j, hj, rfl⟩ := List.getElem_of_mem hd
          exact HK.out j hj (by omega)
        go_wp2
        go_ret
        exact ⟨by (rw [HF.out]) <;> rfl, HG.out⟩
end Go.Proofs.Ytfobfpigbfepoaa
namespace Go.Proofs.Ytfobfpigbfepoaa
open Go.ChangeShapes Go.WideShapes Go.ChangeAt Go.RowKit
open Go.ChangeMaps (open_string shut_string)
theorem fnd_len {w : World} {ad : Option Addr} {D : List Dm} (hB : BkAt w ad D) (s : ByteArray) : (Bk.fnd (dns D) s).L.length ≤ 9223372036854775807 := by
  unfold Bk.fnd
  split
  · rw [List.getD_eq_getElem?_getD]
    cases h : (dns D)[Bk.pos (Bk.nms (dns D)) s]? with
    | none => simp
    | some d =>
      obtain ⟨hl, e⟩ := List.getElem?_eq_some_iff.1 h
      rw [dns_len] at hl
      rw [dns_get D _ hl] at e
      rw [← e]
      exact (hB.rng _ (List.getElem_mem hl)).2.1
  · simp
set_option maxHeartbeats 8000000 in
set_option maxRecDepth 100000 in
theorem bookFinds_walk (D : List Dm) (s : ByteArray) (ad : Option Addr) (cap : Nat) (w : World) (hB : BkAt w ad D) (hn : D.length ≤ 9223372036854775807) :
    Calls Try.prog 3 #[.slice ad D.length cap, .string s] w fun e w' => e = .returned (.bool true) ∧ Gr w w' := by
  have HA : Hid (∀ w', Calls Try.prog 7 #[] w' fun e w2 => e = .returned (.bool true) ∧ Gr w' w2) := fun w' => awake10_any w'
  have HF : Hid (∀ w', Gr w w' → Calls Try.prog 6 #[.slice ad D.length cap] w' fun e w2 => e = .returned (.bool (fewB D)) ∧ Gr w' w2) := fun w' g => few10_any D ad cap w' (hB.row.gr g) hn (fun d hd => (hB.rng d hd).2.1)
  have HI : Hid (∀ w', Gr w w' → Calls Try.prog 8 #[.slice ad D.length cap, .string s] w' fun e w2 => FnR w' (Bk.fnd (dns D) s) (Bk.fndB (dns D) s) e w2) := fun w' g => find_any D s ad cap w' (hB.gr g) hn
  have HJ : Hid (∀ w', Gr w w' → Calls Try.prog 9 #[.slice ad D.length cap, .string s] w' fun e w2 => FnR w' (Bk.fnd (dns D) s) (Bk.fndB (dns D) s) e w2) := fun w' g => refFind10_any D s ad cap w' (hB.gr g) hn
  have HM : Hid (∀ w', Gr w w' → Calls Try.prog 10 #[.slice ad D.length cap] w' fun e w2 => e = .returned (.int .i64 (Bk.mayE (dns D))) ∧ Gr w' w2) := fun w' g => may_any D ad cap w' (hB.gr g) hn
  have HN : Hid (∀ w', Gr w w' → Calls Try.prog 11 #[.slice ad D.length cap] w' fun e w2 => e = .returned (.int .i64 (Bk.mayE (dns D))) ∧ Gr w' w2) := fun w' g => refMay_any D ad cap w' (hB.gr g) hn
  have HLn : Hid ((Bk.fnd (dns D) s).L.length ≤ 9223372036854775807) := fnd_len hB s
  have HE : Hid (∀ (nm : ByteArray) (L : List Df.Stp) (a1 : Option Addr) (c1 : Nat) (a2 : Option Addr) (c2 : Nat) w', StpsAt w' a1 L → StpsAt w' a2 L → L.length ≤ 9223372036854775807 → Calls Try.prog 12 #[.agg #[.string nm, .slice a1 L.length c1], .agg #[.string nm, .slice a2 L.length c2]] w' fun e w2 => e = .returned (.bool true) ∧ Gr w' w2) := by
    intro nm L a1 c1 a2 c2 w' h1 h2 hl
    have := refEqual_any nm L a1 c1 nm L a2 c2 w' h1 h2 hl
    rw [show eqD nm L nm L = true by unfold eqD; rw [decide_eq_true rfl, eqL_refl]; rfl] at this
    exact this
  clear hB hn
  generalize Bk.fnd (dns D) s = d at *
  generalize Bk.fndB (dns D) s = bb at *
  generalize Bk.mayE (dns D) = me at *
  obtain ⟨dn, dl⟩ := d
  dsimp only at *
  cases hf : fewB D with
  | false =>
    rw [hf] at HF
    go_enter Try.func3, Try.ntmps3
    go_wp2_with fail
    refine (HF.out w (Gr.refl w)).mono ?_
    rintro e w1 ⟨rfl, hg1⟩
    go_wp2_with fail
    refine (HA.out _).mono ?_
    rintro e w2 ⟨rfl, hg2⟩
    go_wp2
    go_ret
    exact ⟨rfl, (by repeat (first | exact Gr.refl _ | refine Gr.alloc ?_ | refine Gr.drew ?_ | refine Gr.trans ?_ (by assumption)))⟩
  | true =>
    rw [hf] at HF
    go_enter Try.func3, Try.ntmps3
    go_wp2_with fail
    refine (HF.out w (Gr.refl w)).mono ?_
    rintro e w1 ⟨rfl, hg1⟩
    go_wp2_with fail
    refine (HI.out _ (by repeat (first | exact Gr.refl _ | refine Gr.alloc ?_ | refine Gr.drew ?_ | refine Gr.trans ?_ (by assumption)))).mono ?_
    rintro e w2 ⟨a1, c1, rfl, hs1, hg2⟩
    have HB2 := Lib.hid (TwoAt.new w2 (.string dn) (.slice a1 dl.length c1) 27 _ rfl)
    have HS2 := Lib.hid (hs1.gr ((Gr.refl w2).alloc (o := .cells #[.string dn, .slice a1 dl.length c1] 27)))
    have HG2 : Hid (Gr w (w2.alloc (.cells #[.string dn, .slice a1 dl.length c1] 27))) := (by repeat (first | exact Gr.refl _ | refine Gr.alloc ?_ | refine Gr.drew ?_ | refine Gr.trans ?_ (by assumption)))
    clear hs1 hg1 hg2
    go_wp2_with fail
    refine (HJ.out _ HG2.out).mono ?_
    rintro e w3 ⟨a2, c2, rfl, hs2, hg3⟩
    have g4 : Gr w3 (w3.alloc (.cells #[.string dn, .slice a2 dl.length c2] 27)) := (Gr.refl w3).alloc
    have HB3 := Lib.hid ((HB2.out.gr hg3).gr g4)
    have HS3 := Lib.hid ((HS2.out.gr hg3).gr g4)
    have HC3 := Lib.hid (TwoAt.new w3 (.string dn) (.slice a2 dl.length c2) 27 _ rfl)
    have HT3 := Lib.hid (hs2.gr g4)
    have HG3 : Hid (Gr w (w3.alloc (.cells #[.string dn, .slice a2 dl.length c2] 27))) := (HG2.out.trans hg3).trans g4
    clear hs2 hg3 g4
    go_wp2_with fail
    refine (HM.out _ HG3.out).mono ?_
    rintro e w4 ⟨rfl, hg4⟩
    have HG4 : Hid (Gr w w4) := HG3.out.trans hg4
    go_wp2_with fail
    refine (HN.out _ HG4.out).mono ?_
    rintro e w5 ⟨rfl, hg5⟩
    have hg45 := hg4.trans hg5
    obtain ⟨b0, b1, _, _, bl⟩ := HB3.out.gr hg45
    obtain ⟨c0', c1', _, _, cl⟩ := HC3.out.gr hg45
    have HS5 := Lib.hid (HS3.out.gr hg45)
    have HT5 := Lib.hid (HT3.out.gr hg45)
    have HG5 : Hid (Gr w w5) := HG4.out.trans hg5
    clear hg4 hg5 hg45
    go_wp2_with fail
    refine (HE.out dn dl a1 c1 a2 c2 _ HS5.out HT5.out HLn.out).mono ?_
    rintro e w6 ⟨rfl, hg6⟩
    have HG6 : Hid (Gr w w6) := HG5.out.trans hg6
    clear hg6
    go_wp2_with fail
    refine (HA.out _).mono ?_
    rintro e w7 ⟨rfl, hg7⟩
    have HG7 : Hid (Gr w w7) := HG6.out.trans hg7
    clear hg7
    go_wp2
    go_ret
    exact ⟨rfl, HG7.out⟩
set_option maxRecDepth 100000 in
theorem bookFinds_lifted (os : Os) (started : os.Started) (H : Type) (enc : TypeId × Value → H) :
    ReturnsInHanded {} Try.checked os 3 .any (Rows.bookFindsSpec.pre6 enc Try.prog Try.f3 Rows.bookFindsRow.domain false) (Rows.bookFindsSpec.post enc Try.prog Try.f3 false true false false) := by
  refine returnsInHanded_of_change (C := Try.checked) own2 started (by kernel_rfl) Try.func3
    (ChangeSpec.witness6 (enc := enc) (C := Try.checked) false ⟨#[], #[.slice none 0 0, .string ⟨#[]⟩], []⟩ 8 (by kernel_rfl) (by kernel_rfl) (by kernel_rfl) (by kernel_rfl)) ?_
  intro W base args ds gs before hval0 hW hcnd _
  have hval : ∀ (j : Nat) t v, Try.f3.params[j]? = some t → args[j]? = some v → Value.okWide Try.prog W .any base t v := hval0
  have hW' := hW
  obtain ⟨p, q, hA0, hV, rfl, hfz, hnd⟩ := hW
  have hA : DataW.TrodAll enc Try.prog W 0 (fun _ => true) true Try.f3.params.toList args.toList ds p := hA0
  rw [Try.params3] at hA hval
  obtain ⟨v0, v1, d0, d1, p0, p1, rfl, rfl, rfl, q0, q1⟩ := trodAll_two hA
  obtain ⟨rfl, rfl⟩ := trodVars_none hV
  have k0 := q0
  have lt0 : ∀ x ∈ p0, x.block < W.heap.size := by obtain ⟨m, hm⟩ := k0; exact DataW.trod_lt m _ _ _ hm
  obtain ⟨ad0, cap0, D0, rfl, hB0, hn0, hc0, hl0, hm0⟩ := open_defs (hval 0 22 v0 rfl rfl) q0
  obtain ⟨a1, rfl, rfl, rfl, wa1⟩ := open_string Try.underlying9 (hval 1 9 v1 rfl rfl) q1
  clear hA0 hval0
  refine (bookFinds_walk D0 a1 ad0 cap0 W hB0 hn0).mono fun e W' ⟨he, hg⟩ => ?_
  subst he
  exact ⟨_, rfl, _, _, _, [], _, [], hW', trodAll_mk1 (shut_bool Try.underlying4 _), trodAll_mk2 (Below.trod laidOut2 (by kernel_rfl) (of_decide_eq_true (by kernel_rfl)) k0 hg.below lt0) (shut_string Try.underlying9 wa1), rfl, hg.below.frame _, fun h => by cases h⟩
theorem bookFinds_holds : Rows.BookFindsSaid :=
  OpenClaim.holds_of_wide 3 Try.f3 rfl rfl rfl rfl rfl rfl rfl ⟨rfl, rfl, rfl, rfl, rfl⟩ rfl rfl rfl rfl rfl (by kernel_rfl) Try.func3 (by kernel_rfl)
    (of_decide_eq_true (by kernel_rfl)) (by unfold Func.isWrapper; first | (rw [if_pos (by decide +kernel)]; kernel_rfl) | (rw [if_neg (by decide +kernel)]; exact ⟨rfl, rfl⟩))
    (fun os started H enc _ => bookFinds_lifted os started H enc)
end Go.Proofs.Ytfobfpigbfepoaa
