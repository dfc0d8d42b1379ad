/- Parts of these proofs, laid together. -/
import Derived.Test.YthfbpilfdfploaaGreatGK
import Derived.Test.YthfbpilfdfploaaGreatGH
import Derived.Test.YthfbpilfdfploaaGreatGE
import Derived.Test.YthfbpilfdfploaaGreatGC
namespace Go.Proofs.YthfbpilfdfploaaGreat
open Go.RowKit

variable {Z : Nat → Prop}
theorem grown_same (w : World) (r : Option Nat) : w.grownBy w r := ⟨rfl, rfl, rfl, Nat.le_refl _, fun _ _ _ => rfl⟩
/- append of a whole row onto an empty literal of the call's own -/
theorem wpList_copyL {P : Program} {w : World} {ops : Array Oper} {rest : List Oper} {o : Oper} {a : Act} {Q : Exit → Act → World → Prop} (hgd : o.guard = none) (s x : Operand) (t : TypeId)
    (ho : o.op = .call { callee := .builtin .append, args := #[s, x], argTypes := #[t, t] })
    (base : Nat) (e : TypeId) (i : TypeInfo) (z : Value) (size bytes : Nat) (ht : P.underlying t = some (.slice e)) (hi : P.info? e = some i) (hz : i.zero = some z) (hsize : i.size = size) (hby : i.bytes = bytes) (hzs : z.cells.size = size) (hsz : 0 < size)
    (v : Value) (hs : a.eval s = v) (hown : w.ownsRow base e size v 0 []) {α : Type} {f : α → List Value} (hf : ∀ x, (f x).length = size) (hf1 : ∀ (L : List α), ∀ u ∈ L.flatMap f, u.oneCell' = true) (L : List α) (ad : Option Addr) (c : Nat) (hx : a.eval x = .slice ad L.length c) (row : RowAt f w ad L)
    (h63 : L.length ≤ maxLen) (hbytes : L.length * bytes ≤ 140737488355328) (hbase : base ≤ w.heap.size)
    (h : ∀ v' w', w'.ownsRow base e size v' L.length (L.flatMap f) → w.grownBy w' v.ownBlock → (v'.ownBlock = v.ownBlock ∨ v'.ownBlock = some w.heap.size) → wpList P ops Q rest (a.put o.dst v') w') : wpList P ops Q (o :: rest) a w := by
  cases ad with
  | none =>
    have := RowAt.none hf hsz row
    subst this
    exact append_gone hgd s x t ho base e i size ht hi v 0 [] hs hown c hx (h v w hown (grown_same _ _) (Or.inl rfl))
  | some p =>
    refine wpList_append_own_at _ hgd s x t ho base e i z size bytes ht hi hz hsize hby hzs hsz v 0 [] hs hown p L.length c (L.flatMap f) hx (flat_len hf L) row.news (hf1 L) (by omega) (by rw [Nat.zero_add]; exact hbytes) hbase ?_
    intro v' w' h1 h2 _ h4
    refine h v' w' ?_ h2 h4
    rw [Nat.zero_add, List.nil_append] at h1
    exact h1
theorem own_lit9 (w : World) (base : Nat) (t : TypeId) (g : Nat) (hg : g = w.heap.size) (hb : base ≤ w.heap.size) : (w.alloc (.cells #[] t)).ownsRow base t 9 (.slice (some ⟨g, 0, none⟩) 0 0) 0 [] := by
  subst hg; exact World.ownsRow_lit w #[] 0 hb (by unfold maxLen; omega) rfl
theorem next_at {D : List Mi} {k : Nat} (h : D.length = k + 1) (f : Int) : Ox.next (its D) f = if f ≤ D[k].q then D[k].q + 1 else f := by
  rw [next_last h f]
  split <;> omega

set_option maxHeartbeats 16000000 in
set_option maxRecDepth 100000 in
theorem rPush_any (D : List Mi) (f now : Int) (Q : List Mn) (ad : Option Addr) (cap : Nat) (adQ : Option Addr) (capQ : Nat) (w : World) (hD : ItsAt Z w ad D) (hc : D.length ≤ cap) (hn : D.length ≤ 9223372036854775807) (hQ : NtsAt Z w adQ Q) (hnQ : Q.length ≤ 9223372036854775807) :
    Calls Tryz.prog 27 #[.slice ad D.length cap, .int .i64 f, .int .i64 now, .slice adQ Q.length capQ] w fun e w' => PtR Z w (Ox.push okN (its D) f now (pks Q)) e w' := by
  obtain ⟨i0, hi0, hz0, hz1, hz2⟩ := info_parts infoItem
  have HM : Hid (∀ w', Gr w w' → Calls Tryz.prog 48 #[.slice ad D.length cap] w' fun e w2 => e = .returned (.int .i64 (oMayE D)) ∧ Gr w' w2) := fun w' g => rMay_any D ad cap w' (hD.gr g) hc hn
  have HT : Hid (∀ w', Calls Tryz.prog 49 #[.int .i64 now] w' fun e w2 => e = .returned (.bool (Ox.tmB now)) ∧ w2 = w') := fun w' => rTime_any now w'
  have HNo : Hid (¬ (Ox.mayB okN (its D) = true ∧ Ox.tmB now = true ∧ 1 ≤ f ∧ f ≤ 1000000001) → Ox.push okN (its D) f now (pks Q) = ([], 2)) := fun h => by unfold Ox.push; rw [if_neg h]
  unfold PtR
  cases hm : Ox.mayB okN (its D) with
  | false =>
    have HR : Hid (Ox.push okN (its D) f now (pks Q) = ([], 2)) := HNo.out (by rw [hm]; simp)
    rw [oMayE_bad hm] at HM
    clear hm hD hQ HNo
    generalize Ox.push okN (its D) f now (pks Q) = R at *
    go_enter Tryz.func27, Tryz.ntmps27
    go_wp2_with fail
    refine (HM.out _ ?_).mono ?_
    · exact (by repeat(first|exact Gr.r _|refine Gr.a ?_|refine Gr.d ?_|refine Gr.t ?_ (by assumption)))
    rintro e1 w1 ⟨rfl, hg1⟩
    go_wp2
    go_ret2
    exact ⟨none, 0, [], by rw [HR.out]; rfl, Bxs.nil _ _, by rw [HR.out]; rfl, (by repeat(first|exact Gr.r _|refine Gr.a ?_|refine Gr.d ?_|refine Gr.t ?_ (by assumption)))⟩
  | true =>
    rw [oMayE_ok hm] at HM
    cases ht : Ox.tmB now with
    | false =>
      have HR : Hid (Ox.push okN (its D) f now (pks Q) = ([], 2)) := HNo.out (by rw [ht]; simp)
      rw [ht] at HT
      clear hm hD hQ HNo ht
      generalize Ox.push okN (its D) f now (pks Q) = R at *
      go_enter Tryz.func27, Tryz.ntmps27
      go_wp2_with fail
      refine (HM.out _ ?_).mono ?_
      · exact (by repeat(first|exact Gr.r _|refine Gr.a ?_|refine Gr.d ?_|refine Gr.t ?_ (by assumption)))
      rintro e1 w1 ⟨rfl, hg1⟩
      go_wp2_with fail
      refine (HT.out _).mono ?_
      rintro e2 w2 ⟨rfl, hw2⟩; obtain rfl := hw2.symm
      go_wp2
      go_ret2
      exact ⟨none, 0, [], by rw [HR.out]; rfl, Bxs.nil _ _, by rw [HR.out]; rfl, (by repeat(first|exact Gr.r _|refine Gr.a ?_|refine Gr.d ?_|refine Gr.t ?_ (by assumption)))⟩
    | true =>
      by_cases hf0 : f < 1
      · have HR : Hid (Ox.push okN (its D) f now (pks Q) = ([], 2)) := HNo.out (by omega)
        rw [ht] at HT
        clear hm hD hQ HNo ht
        generalize Ox.push okN (its D) f now (pks Q) = R at *
        go_enter Tryz.func27, Tryz.ntmps27
        go_wp2_with fail
        refine (HM.out _ ?_).mono ?_
        · exact (by repeat(first|exact Gr.r _|refine Gr.a ?_|refine Gr.d ?_|refine Gr.t ?_ (by assumption)))
        rintro e1 w1 ⟨rfl, hg1⟩
        go_wp2_with fail
        refine (HT.out _).mono ?_
        rintro e2 w2 ⟨rfl, hw2⟩; obtain rfl := hw2.symm
        go_wp2
        go_ret2
        exact ⟨none, 0, [], by rw [HR.out]; rfl, Bxs.nil _ _, by rw [HR.out]; rfl, (by repeat(first|exact Gr.r _|refine Gr.a ?_|refine Gr.d ?_|refine Gr.t ?_ (by assumption)))⟩
      · by_cases hf1 : 1000000001 < f
        · have HR : Hid (Ox.push okN (its D) f now (pks Q) = ([], 2)) := HNo.out (by omega)
          rw [ht] at HT
          clear hm hD hQ HNo ht
          generalize Ox.push okN (its D) f now (pks Q) = R at *
          go_enter Tryz.func27, Tryz.ntmps27
          go_wp2_with fail
          refine (HM.out _ ?_).mono ?_
          · exact (by repeat(first|exact Gr.r _|refine Gr.a ?_|refine Gr.d ?_|refine Gr.t ?_ (by assumption)))
          rintro e1 w1 ⟨rfl, hg1⟩
          go_wp2_with fail
          refine (HT.out _).mono ?_
          rintro e2 w2 ⟨rfl, hw2⟩; obtain rfl := hw2.symm
          go_wp2
          go_ret2
          exact ⟨none, 0, [], by rw [HR.out]; rfl, Bxs.nil _ _, by rw [HR.out]; rfl, (by repeat(first|exact Gr.r _|refine Gr.a ?_|refine Gr.d ?_|refine Gr.t ?_ (by assumption)))⟩
        · have HR : Hid (Ox.push okN (its D) f now (pks Q) = Ox.pushF okN f now (its D) (pks Q)) := by
            show _ = _
            unfold Ox.push; rw [if_pos ⟨hm, ht, by omega, by omega⟩]
          have hl12 := mayB_len hm
          have HMy : Hid (∀ (l : List (Ox.It Nx)) p, Ox.mayB okN l = true → (putF f now l p).2 = 0 → Ox.mayB okN (putF f now l p).1 = true) := fun l p h h0 => put_may p (by omega) ht h h0
          rw [ht] at HT
          have HMd := Lib.hid hm
          have HDr := Lib.hid hD
          have HQ := Lib.hid hQ
          have HPc : Hid (∀ l (j : Nat) (h : j < Q.length), Ox.pushF okN f now l ((pks Q).drop j) = if (putF f now l (pk Q[j].x)).2 = 0 then Ox.pushF okN f now (putF f now l (pk Q[j].x)).1 ((pks Q).drop (j + 1)) else ([], (putF f now l (pk Q[j].x)).2)) := by
            intro l j h
            rw [List.drop_eq_getElem_cons (by rw [pks_len]; exact h), push_cons]
            have e : (pks Q)[j]'(by rw [pks_len]; exact h) = pk Q[j].x := by simp [pks]
            rw [e]
          clear hm hD hQ HNo ht
          generalize Ox.push okN (its D) f now (pks Q) = R at *
          go_enter Tryz.func27, Tryz.ntmps27
          go_wp2_with fail
          refine (HM.out _ ?_).mono ?_
          · exact (by repeat(first|exact Gr.r _|refine Gr.a ?_|refine Gr.d ?_|refine Gr.t ?_ (by assumption)))
          rintro e1 w1 ⟨rfl, hg1⟩
          have HG1 : Hid (Gr w w1) := (by repeat(first|exact Gr.r _|refine Gr.a ?_|refine Gr.d ?_|refine Gr.t ?_ (by assumption)))
          clear hg1 HM
          go_wp2_with fail
          refine (HT.out _).mono ?_
          rintro e2 w2 ⟨rfl, hw2⟩; obtain rfl := hw2.symm
          have hdr := (HDr.out.gr HG1.out).row.gr ((Gr.refl w1).alloc (o := .cells #[] 73))
          have HDa := Lib.hid hdr
          have hs1 := HG1.out.size
          have hm0 : D.length ≤ maxLen := by unfold maxLen; omega
          clear hdr HT
          go_wp2_with (first
            | (at_builtin; refine wpList_copyL rfl _ _ 53 rfl w.heap.size 73 i0 (.agg #[.int .i64 0, .int .i64 0, .int .i64 0, .int .i64 0, .int .i64 0, .int .i64 0, .slice none 0 0, .string ⟨#[]⟩, .int .i64 0]) 9 96 Tryz.underlying53 hi0 hz0 hz1 hz2 rfl (by decide) _ rfl (own_lit9 _ _ _ _ (by simp) hs1) iC_len i_one D ad cap rfl HDa.out hm0 (by omega) (by simp; omega) ?_)
            | fail)
          intro v3 w3 ho3 hgrow3 hat3
          have hg3 : Gr w w3 := Gr.grown (HG1.out.alloc (o := .cells #[] 73)) hgrow3 (fun g e => by simp [Value.ownBlock] at e; omega)
          have hb3 : Bxs Z w3 w.heap.size v3 D := by
            refine ⟨ho3, fun x hx => (HDr.out.nt x hx).gr hg3, fun x hx hne p e kk => ?_⟩
            have h1 := (ho3.lt _ kk).1
            have h2 := hops_lt (HDr.out.nt x hx).hp hne e
            omega
          obtain ⟨a3, c3, rfl⟩ := own_slice3 hb3
          have HB3 := Lib.hid hb3
          have HG3 := Lib.hid hg3
          clear ho3 hgrow3 hat3 hg3 hb3 HDa HG1 hs1
          go_wp2
          go_loopw [10, 11] (fun s10 s11 wr => ∃ (k : Nat) (a : Option Addr) (c : Nat) (E : List Mi), s11 = .int .i64 k ∧ s10 = .slice a E.length c ∧ k ≤ Q.length ∧ Bxs Z wr w.heap.size (.slice a E.length c) E ∧ Ox.mayB okN (its E) = true ∧ R = Ox.pushF okN f now (its E) ((pks Q).drop k) ∧ Gr w wr) (fun _ s11 _ => Q.length - (intOf s11).toNat)
          case atStart => exact ⟨0, a3, c3, D, rfl, rfl, Nat.zero_le _, HB3.out, HMd.out, by rw [HR.out, List.drop_zero], HG3.out⟩
          case round =>
            clear HB3 HG3 HR HMd HDr
            obtain ⟨k, a, c, E, rfl, rfl, hk, hb, hmE, hR, hg⟩ := hrel
            have HG := Lib.hid hg
            have HB := Lib.hid hb
            have HmE := Lib.hid hmE
            have HRk := Lib.hid hR
            have hE12 := mayB_len hmE
            obtain ⟨ad2, cap2, e2, _, _, hit, _⟩ := hb.at
            cases e2
            by_cases hlt : k < Q.length
            · obtain ⟨b, off, rfl, hbl, d0, d1, d2, d3, d4, d5⟩ := NtsRow.at HQ.out.row k hlt
              have d0 := hg.keep d0
              have d1 := hg.keep d1
              have d2 := hg.keep d2
              have d3 := hg.keep d3
              have d4 := hg.keep d4
              have d5 := hg.keep d5
              have hbw : b < wr.heap.size := Nat.lt_of_lt_of_le hbl hg.size
              have hki : (k : Int) < (Q.length : Int) := by omega
              have hk0' : (0 : Int) ≤ (k : Int) := by omega
              have hmn := HQ.out.nt Q[k] (List.getElem_mem hlt)
              have HCk : Hid (∀ w', Gr wr w' → Calls Tryz.prog 46 #[Q[k].v] w' fun e w2 => e = .returned (.int .i64 (Nt.ckE Q[k].x)) ∧ Gr w' w2) := fun w' g => refNCheck_any Q[k].x.k Q[k].x.r Q[k].x.n Q[k].x.L Q[k].x.d Q[k].x.y Q[k].ad Q[k].cap w' (hmn.hp.gr (hg.trans g)) hmn.hl hmn.hd
              have HAm : Hid (∀ w', Gr wr w' → Calls Tryz.prog 50 #[.slice a E.length c, Q[k].v] w' fun e w2 => e = .returned (.bool (Ox.among (its E) (pk Q[k].x))) ∧ Gr w' w2) := fun w' g => rAmong_any E Q[k] a c w' (hit.gr g) (by omega) (hmn.gr (hg.trans g))
              have HY := Lib.hid (HPc.out (its E) k hlt)
              have HMk : Hid ((putF f now (its E) (pk Q[k].x)).2 = 0 → Ox.mayB okN (putF f now (its E) (pk Q[k].x)).1 = true) := HMy.out _ _ HmE.out
              have HNx := Lib.hid hmn
              have hck := ck_okN Q[k].x
              have hck2 : Nt.ckE Q[k].x = 0 ∨ Nt.ckE Q[k].x = 130 := by
                unfold Nt.ckE
                split
                · exact Or.inl rfl
                · exact Or.inr rfl
              have HIt := Lib.hid hit
              clear hg hb hmE hR hit hmn HPc HMy
              generalize Q[k] = m at *
              rcases hck2 with h0 | h0
              · rw [h0] at HCk hck
                have hok : okN (pk m.x) = true := hck.symm
                cases ha : Ox.among (its E) (pk m.x) with
                | true =>
                  have hT : putF f now (its E) (pk m.x) = (its E, 0) := by unfold putF; rw [if_pos hok, if_pos ha]
                  rw [hT, if_pos rfl] at HY
                  rw [ha] at HAm
                  clear hT HMk hok ha hck h0
                  obtain ⟨⟨k0, r, n, L, dt, y⟩, ax, cx⟩ := m
                  dsimp only [Mn.v] at *
                  go_wp2_with fail
                  refine (HCk.out _ ?_).mono ?_
                  · exact (by repeat(first|exact Gr.r _|refine Gr.a ?_|refine Gr.d ?_|refine Gr.t ?_ (by assumption)))
                  rintro e5 w5 ⟨rfl, hg5⟩
                  have HGA : Hid (Gr wr w5) := (by repeat(first|exact Gr.r _|refine Gr.a ?_|refine Gr.d ?_|refine Gr.t ?_ (by assumption)))
                  have d0 := HGA.out.keep d0
                  have d1 := HGA.out.keep d1
                  have d2 := HGA.out.keep d2
                  have d3 := HGA.out.keep d3
                  have d4 := HGA.out.keep d4
                  have d5 := HGA.out.keep d5
                  have hbw := Nat.lt_of_lt_of_le hbw HGA.out.size
                  clear hg5 HCk
                  go_wp2_with fail
                  refine (HAm.out _ HGA.out).mono ?_
                  rintro e6 w6 ⟨rfl, hg6⟩
                  have HG2 : Hid (Gr wr w6) := HGA.out.trans hg6
                  have d0 := hg6.keep d0
                  have d1 := hg6.keep d1
                  have d2 := hg6.keep d2
                  have d3 := hg6.keep d3
                  have d4 := hg6.keep d4
                  have d5 := hg6.keep d5
                  have hbw := Nat.lt_of_lt_of_le hbw hg6.size
                  clear hg6 HAm
                  go_wp2
                  go_roundw
                  case rel => exact ⟨k + 1, a, c, E, by go_num, rfl, by omega, HB.out.gr HG2.out, HmE.out, by rw [HRk.out]; exact HY.out, HG.out.trans HG2.out⟩
                  case measure => simp [intOf]; omega
                | false =>
                  have han : ¬ (Ox.among (its E) (pk m.x) = true) := by rw [ha]; simp
                  rw [ha] at HAm
                  by_cases h12 : E.length = 12
                  · have hT : putF f now (its E) (pk m.x) = ([], 190) := by unfold putF; rw [if_pos hok, if_neg han, its_len, if_pos h12]
                    rw [hT, if_neg (by simp)] at HY
                    have HR2 : Hid (R = ([], 190)) := by show _ = _; rw [HRk.out]; exact HY.out
                    have hl : ((E.length : Int) == 12) = true := by rw [beq_iff_eq]; omega
                    clear hT HMk hok ha hck h0 han HB HIt HmE HRk
                    generalize E.length = le at *
                    clear h12
                    obtain ⟨⟨k0, r, n, L, dt, y⟩, ax, cx⟩ := m
                    dsimp only [Mn.v] at *
                    go_wp2_with fail
                    refine (HCk.out _ ?_).mono ?_
                    · exact (by repeat(first|exact Gr.r _|refine Gr.a ?_|refine Gr.d ?_|refine Gr.t ?_ (by assumption)))
                    rintro e5 w5 ⟨rfl, hg5⟩
                    have HGA : Hid (Gr wr w5) := (by repeat(first|exact Gr.r _|refine Gr.a ?_|refine Gr.d ?_|refine Gr.t ?_ (by assumption)))
                    have d0 := HGA.out.keep d0
                    have d1 := HGA.out.keep d1
                    have d2 := HGA.out.keep d2
                    have d3 := HGA.out.keep d3
                    have d4 := HGA.out.keep d4
                    have d5 := HGA.out.keep d5
                    have hbw := Nat.lt_of_lt_of_le hbw HGA.out.size
                    clear hg5 HCk
                    go_wp2_with fail
                    refine (HAm.out _ HGA.out).mono ?_
                    rintro e6 w6 ⟨rfl, hg6⟩
                    have HG2 : Hid (Gr wr w6) := HGA.out.trans hg6
                    have d0 := hg6.keep d0
                    have d1 := hg6.keep d1
                    have d2 := hg6.keep d2
                    have d3 := hg6.keep d3
                    have d4 := hg6.keep d4
                    have d5 := hg6.keep d5
                    have hbw := Nat.lt_of_lt_of_le hbw hg6.size
                    clear hg6 HAm
                    go_wp2
                    go_ret2
                    exact ⟨none, 0, [], by rw [HR2.out]; rfl, Bxs.nil _ _, by rw [HR2.out]; rfl, HG.out.trans HG2.out⟩
                  · have hl : ((E.length : Int) == 12) = false := by rw [beq_eq_false_iff_ne]; omega
                    have HT0 : Hid (putF f now (its E) (pk m.x) = if 1000000000 < Ox.next (its E) f then ([], 180) else (its E ++ [⟨Ox.next (its E) f, now, 0, pk m.x⟩], 0)) := by
                      show _ = _
                      unfold putF
                      rw [if_pos hok, if_neg han, its_len, if_neg h12]
                    clear hok ha hck h0 han
                    by_cases hz : E.length = 0
                    · have hEn : E = [] := List.length_eq_zero_iff.1 hz
                      have HNq : Hid (Ox.next (its E) f = f) := by rw [hEn]; exact next_none f
                      have hy1 : ¬ ((0 : Int) < (E.length : Int)) := by omega
                      have hy2 : ¬ (0 < E.length) := by omega
                      have hex : True := trivial
                      clear hEn hz
                      by_cases hbig : 1000000000 < f
                      · have hT : putF f now (its E) (pk m.x) = ([], 180) := by rw [HT0.out, HNq.out, if_pos hbig]
                        rw [hT, if_neg (by simp)] at HY
                        have HR2 : Hid (R = ([], 180)) := by show _ = _; rw [HRk.out]; exact HY.out
                        clear hT HMk
                        obtain ⟨⟨k0, r, n, L, dt, y⟩, ax, cx⟩ := m
                        dsimp only [Mn.v] at *
                        go_wp2_with fail
                        refine (HCk.out _ ?_).mono ?_
                        · exact (by repeat(first|exact Gr.r _|refine Gr.a ?_|refine Gr.d ?_|refine Gr.t ?_ (by assumption)))
                        rintro e5 w5 ⟨rfl, hg5⟩
                        have HGA : Hid (Gr wr w5) := (by repeat(first|exact Gr.r _|refine Gr.a ?_|refine Gr.d ?_|refine Gr.t ?_ (by assumption)))
                        have d0 := HGA.out.keep d0
                        have d1 := HGA.out.keep d1
                        have d2 := HGA.out.keep d2
                        have d3 := HGA.out.keep d3
                        have d4 := HGA.out.keep d4
                        have d5 := HGA.out.keep d5
                        have hbw := Nat.lt_of_lt_of_le hbw HGA.out.size
                        clear hg5 HCk
                        go_wp2_with fail
                        refine (HAm.out _ HGA.out).mono ?_
                        rintro e6 w6 ⟨rfl, hg6⟩
                        have HG2 : Hid (Gr wr w6) := HGA.out.trans hg6
                        have d0 := hg6.keep d0
                        have d1 := hg6.keep d1
                        have d2 := hg6.keep d2
                        have d3 := hg6.keep d3
                        have d4 := hg6.keep d4
                        have d5 := hg6.keep d5
                        have hbw := Nat.lt_of_lt_of_le hbw hg6.size
                        clear hg6 HAm
                        skip
                        go_wp2
                        go_ret2
                        exact ⟨none, 0, [], by rw [HR2.out]; rfl, Bxs.nil _ _, by rw [HR2.out]; rfl, HG.out.trans HG2.out⟩
                      · have hT : putF f now (its E) (pk m.x) = (its E ++ [⟨f, now, 0, pk m.x⟩], 0) := by rw [HT0.out, HNq.out, if_neg hbig]
                        rw [hT, if_pos rfl] at HY
                        have hMk := HMk.out (by rw [hT])
                        rw [hT] at hMk
                        have HMk2 := Lib.hid hMk
                        clear hT HMk hMk
                        obtain ⟨⟨k0, r, n, L, dt, y⟩, ax, cx⟩ := m
                        dsimp only [Mn.v] at *
                        go_wp2_with fail
                        refine (HCk.out _ ?_).mono ?_
                        · exact (by repeat(first|exact Gr.r _|refine Gr.a ?_|refine Gr.d ?_|refine Gr.t ?_ (by assumption)))
                        rintro e5 w5 ⟨rfl, hg5⟩
                        have HGA : Hid (Gr wr w5) := (by repeat(first|exact Gr.r _|refine Gr.a ?_|refine Gr.d ?_|refine Gr.t ?_ (by assumption)))
                        have d0 := HGA.out.keep d0
                        have d1 := HGA.out.keep d1
                        have d2 := HGA.out.keep d2
                        have d3 := HGA.out.keep d3
                        have d4 := HGA.out.keep d4
                        have d5 := HGA.out.keep d5
                        have hbw := Nat.lt_of_lt_of_le hbw HGA.out.size
                        clear hg5 HCk
                        go_wp2_with fail
                        refine (HAm.out _ HGA.out).mono ?_
                        rintro e6 w6 ⟨rfl, hg6⟩
                        have HG2 : Hid (Gr wr w6) := HGA.out.trans hg6
                        have d0 := hg6.keep d0
                        have d1 := hg6.keep d1
                        have d2 := hg6.keep d2
                        have d3 := hg6.keep d3
                        have d4 := hg6.keep d4
                        have d5 := hg6.keep d5
                        have hbw := Nat.lt_of_lt_of_le hbw hg6.size
                        clear hg6 HAm
                        skip
                        have HOw := Lib.hid ((HB.out.gr HG2.out).gr ((Gr.refl w6).alloc (o := .cells #[.int .i64 f, .int .i64 now, .int .i64 0, .int .i64 k0, .int .i64 r, .int .i64 n, .slice ax L.length cx, .string dt, .int .i64 y] 73)))
                        have HM4 := Lib.hid ((HNx.out.gr (HG.out.trans HG2.out)).gr ((Gr.refl w6).alloc (o := .cells #[.int .i64 f, .int .i64 now, .int .i64 0, .int .i64 k0, .int .i64 r, .int .i64 n, .slice ax L.length cx, .string dt, .int .i64 y] 73)))
                        have HG4 : Hid (Gr w (w6.alloc (.cells #[.int .i64 f, .int .i64 now, .int .i64 0, .int .i64 k0, .int .i64 r, .int .i64 n, .slice ax L.length cx, .string dt, .int .i64 y] 73))) := (HG.out.trans HG2.out).alloc
                        have hnw := i_new w6 ⟨f, now, 0, ⟨⟨k0, r, n, L, dt, y⟩, ax, cx⟩⟩ 73
                        rw [show (iC ⟨f, now, 0, ⟨⟨k0, r, n, L, dt, y⟩, ax, cx⟩⟩).toArray = #[.int .i64 f, .int .i64 now, .int .i64 0, .int .i64 k0, .int .i64 r, .int .i64 n, .slice ax L.length cx, .string dt, .int .i64 y] from rfl] at hnw
                        have HNw := Lib.hid hnw
                        have HAp : Hid (L ≠ [] → ∀ p, ax = some p → (Value.slice a E.length c).ownBlock ≠ some p.block) := by
                          intro hne p e kk
                          have h1 := (HB.out.own.lt _ kk).1
                          have h2 := hops_lt HNx.out.hp hne e
                          omega
                        have hlen4 : w.heap.size ≤ w6.heap.size := Nat.le_trans HG.out.size HG2.out.size
                        clear hnw HNx
                        have hm1 : E.length + 1 ≤ maxLen := by unfold maxLen; omega
                        go_wp2_with (first
                          | (at_builtin; refine wpList_append_own_at _ rfl _ _ 53 rfl w.heap.size 73 i0 (.agg #[.int .i64 0, .int .i64 0, .int .i64 0, .int .i64 0, .int .i64 0, .int .i64 0, .slice none 0 0, .string ⟨#[]⟩, .int .i64 0]) 9 96 Tryz.underlying53 hi0 hz0 hz1 hz2 rfl (by decide) _ _ _ rfl HOw.out.own ⟨w6.heap.size, 0, none⟩ 1 1 ([(⟨f, now, 0, ⟨⟨k0, r, n, L, dt, y⟩, ax, cx⟩⟩ : Mi)].flatMap iC) rfl rfl HNw.out (i_one _) hm1 (by omega) (by simp; omega) ?_)
                          | fail)
                        intro v' w7 hown' hgrow _ hat
                        have hmo := Bxs.more (x := ⟨f, now, 0, ⟨⟨k0, r, n, L, dt, y⟩, ax, cx⟩⟩) HOw.out HM4.out HAp.out hown' hgrow (by simpa using hat)
                        obtain ⟨a7, c7, rfl⟩ := own_slice3 hmo
                        have HMo := Lib.hid hmo
                        have HG7 := Lib.hid (HOw.out.grown HG4.out hgrow (Nat.le_refl _))
                        have HIe : Hid (its (E ++ [(⟨f, now, 0, ⟨⟨k0, r, n, L, dt, y⟩, ax, cx⟩⟩ : Mi)]) = its E ++ [⟨f, now, 0, pk ⟨k0, r, n, L, dt, y⟩⟩]) := by
                          show _ = _
                          rw [its_app]; rfl
                        clear hmo hown' hgrow hat HOw HM4 HNw HAp d0 d1 d2 d3 d4 d5
                        go_wp2
                        go_roundw
                        case rel => exact ⟨k + 1, a7, c7, E ++ [(⟨f, now, 0, ⟨⟨k0, r, n, L, dt, y⟩, ax, cx⟩⟩ : Mi)], by go_num, by simp, by omega, HMo.out, by rw [HIe.out]; exact HMk2.out, by rw [HIe.out, HRk.out]; exact HY.out, HG7.out⟩
                        case measure => simp [intOf]; omega
                    · obtain ⟨e1, he1⟩ : ∃ e1, E.length = e1 + 1 := ⟨E.length - 1, by omega⟩
                      have hnx := next_at he1 f
                      have hqr : 1 ≤ E[e1].q ∧ E[e1].q ≤ 1000000000 := (may_one HmE.out E[e1].it (List.mem_map.2 ⟨_, List.getElem_mem (by omega), rfl⟩)).1
                      have hzl : (0 : Int) < (E.length : Int) := by omega
                      have hz4 : (E.length : Int) - 1 = (e1 : Int) := by omega
                      have hz5 : (e1 : Int) < (E.length : Int) := by omega
                      have hz6 : (0 : Int) ≤ (e1 : Int) := by omega
                      have hz3 : IntKind.i64.wrap (e1 : Int) = (e1 : Int) := by rw [IntKind.wrap_i64]; omega
                      obtain ⟨ob, oo, e3, _, o0, orest⟩ := ItsRow.at HIt.out.row e1 (by omega)
                      cases e3
                      clear orest hz
                      have HO0 := Lib.hid o0
                      generalize E[e1].q = q1 at *
                      by_cases hfq : f ≤ q1
                      · have HNq : Hid (Ox.next (its E) f = q1 + 1) := by show _ = _; rw [hnx, if_pos hfq]
                        clear hnx he1
                        by_cases hbig : 1000000000 < q1 + 1
                        · have hT : putF f now (its E) (pk m.x) = ([], 180) := by rw [HT0.out, HNq.out, if_pos hbig]
                          rw [hT, if_neg (by simp)] at HY
                          have HR2 : Hid (R = ([], 180)) := by show _ = _; rw [HRk.out]; exact HY.out
                          clear hT HMk
                          obtain ⟨⟨k0, r, n, L, dt, y⟩, ax, cx⟩ := m
                          dsimp only [Mn.v] at *
                          go_wp2_with fail
                          refine (HCk.out _ ?_).mono ?_
                          · exact (by repeat(first|exact Gr.r _|refine Gr.a ?_|refine Gr.d ?_|refine Gr.t ?_ (by assumption)))
                          rintro e5 w5 ⟨rfl, hg5⟩
                          have HGA : Hid (Gr wr w5) := (by repeat(first|exact Gr.r _|refine Gr.a ?_|refine Gr.d ?_|refine Gr.t ?_ (by assumption)))
                          have d0 := HGA.out.keep d0
                          have d1 := HGA.out.keep d1
                          have d2 := HGA.out.keep d2
                          have d3 := HGA.out.keep d3
                          have d4 := HGA.out.keep d4
                          have d5 := HGA.out.keep d5
                          have hbw := Nat.lt_of_lt_of_le hbw HGA.out.size
                          clear hg5 HCk
                          go_wp2_with fail
                          refine (HAm.out _ HGA.out).mono ?_
                          rintro e6 w6 ⟨rfl, hg6⟩
                          have HG2 : Hid (Gr wr w6) := HGA.out.trans hg6
                          have d0 := hg6.keep d0
                          have d1 := hg6.keep d1
                          have d2 := hg6.keep d2
                          have d3 := hg6.keep d3
                          have d4 := hg6.keep d4
                          have d5 := hg6.keep d5
                          have hbw := Nat.lt_of_lt_of_le hbw hg6.size
                          clear hg6 HAm
                          have o0 := HG2.out.keep HO0.out
                          go_wp2
                          go_ret2
                          exact ⟨none, 0, [], by rw [HR2.out]; rfl, Bxs.nil _ _, by rw [HR2.out]; rfl, HG.out.trans HG2.out⟩
                        · have hT : putF f now (its E) (pk m.x) = (its E ++ [⟨q1 + 1, now, 0, pk m.x⟩], 0) := by rw [HT0.out, HNq.out, if_neg hbig]
                          rw [hT, if_pos rfl] at HY
                          have hMk := HMk.out (by rw [hT])
                          rw [hT] at hMk
                          have HMk2 := Lib.hid hMk
                          clear hT HMk hMk
                          obtain ⟨⟨k0, r, n, L, dt, y⟩, ax, cx⟩ := m
                          dsimp only [Mn.v] at *
                          go_wp2_with fail
                          refine (HCk.out _ ?_).mono ?_
                          · exact (by repeat(first|exact Gr.r _|refine Gr.a ?_|refine Gr.d ?_|refine Gr.t ?_ (by assumption)))
                          rintro e5 w5 ⟨rfl, hg5⟩
                          have HGA : Hid (Gr wr w5) := (by repeat(first|exact Gr.r _|refine Gr.a ?_|refine Gr.d ?_|refine Gr.t ?_ (by assumption)))
                          have d0 := HGA.out.keep d0
                          have d1 := HGA.out.keep d1
                          have d2 := HGA.out.keep d2
                          have d3 := HGA.out.keep d3
                          have d4 := HGA.out.keep d4
                          have d5 := HGA.out.keep d5
                          have hbw := Nat.lt_of_lt_of_le hbw HGA.out.size
                          clear hg5 HCk
                          go_wp2_with fail
                          refine (HAm.out _ HGA.out).mono ?_
                          rintro e6 w6 ⟨rfl, hg6⟩
                          have HG2 : Hid (Gr wr w6) := HGA.out.trans hg6
                          have d0 := hg6.keep d0
                          have d1 := hg6.keep d1
                          have d2 := hg6.keep d2
                          have d3 := hg6.keep d3
                          have d4 := hg6.keep d4
                          have d5 := hg6.keep d5
                          have hbw := Nat.lt_of_lt_of_le hbw hg6.size
                          clear hg6 HAm
                          have o0 := HG2.out.keep HO0.out
                          have HOw := Lib.hid ((HB.out.gr HG2.out).gr ((Gr.refl w6).alloc (o := .cells #[.int .i64 (q1 + 1), .int .i64 now, .int .i64 0, .int .i64 k0, .int .i64 r, .int .i64 n, .slice ax L.length cx, .string dt, .int .i64 y] 73)))
                          have HM4 := Lib.hid ((HNx.out.gr (HG.out.trans HG2.out)).gr ((Gr.refl w6).alloc (o := .cells #[.int .i64 (q1 + 1), .int .i64 now, .int .i64 0, .int .i64 k0, .int .i64 r, .int .i64 n, .slice ax L.length cx, .string dt, .int .i64 y] 73)))
                          have HG4 : Hid (Gr w (w6.alloc (.cells #[.int .i64 (q1 + 1), .int .i64 now, .int .i64 0, .int .i64 k0, .int .i64 r, .int .i64 n, .slice ax L.length cx, .string dt, .int .i64 y] 73))) := (HG.out.trans HG2.out).alloc
                          have hnw := i_new w6 ⟨q1 + 1, now, 0, ⟨⟨k0, r, n, L, dt, y⟩, ax, cx⟩⟩ 73
                          rw [show (iC ⟨q1 + 1, now, 0, ⟨⟨k0, r, n, L, dt, y⟩, ax, cx⟩⟩).toArray = #[.int .i64 (q1 + 1), .int .i64 now, .int .i64 0, .int .i64 k0, .int .i64 r, .int .i64 n, .slice ax L.length cx, .string dt, .int .i64 y] from rfl] at hnw
                          have HNw := Lib.hid hnw
                          have HAp : Hid (L ≠ [] → ∀ p, ax = some p → (Value.slice (some ⟨ob, oo, none⟩) E.length c).ownBlock ≠ some p.block) := by
                            intro hne p e kk
                            have h1 := (HB.out.own.lt _ kk).1
                            have h2 := hops_lt HNx.out.hp hne e
                            omega
                          have hlen4 : w.heap.size ≤ w6.heap.size := Nat.le_trans HG.out.size HG2.out.size
                          clear hnw HNx
                          have hm1 : E.length + 1 ≤ maxLen := by unfold maxLen; omega
                          go_wp2_with (first
                            | (at_builtin; refine wpList_append_own_at _ rfl _ _ 53 rfl w.heap.size 73 i0 (.agg #[.int .i64 0, .int .i64 0, .int .i64 0, .int .i64 0, .int .i64 0, .int .i64 0, .slice none 0 0, .string ⟨#[]⟩, .int .i64 0]) 9 96 Tryz.underlying53 hi0 hz0 hz1 hz2 rfl (by decide) _ _ _ rfl HOw.out.own ⟨w6.heap.size, 0, none⟩ 1 1 ([(⟨q1 + 1, now, 0, ⟨⟨k0, r, n, L, dt, y⟩, ax, cx⟩⟩ : Mi)].flatMap iC) rfl rfl HNw.out (i_one _) hm1 (by omega) (by simp; omega) ?_)
                            | fail)
                          intro v' w7 hown' hgrow _ hat
                          have hmo := Bxs.more (x := ⟨q1 + 1, now, 0, ⟨⟨k0, r, n, L, dt, y⟩, ax, cx⟩⟩) HOw.out HM4.out HAp.out hown' hgrow (by simpa using hat)
                          obtain ⟨a7, c7, rfl⟩ := own_slice3 hmo
                          have HMo := Lib.hid hmo
                          have HG7 := Lib.hid (HOw.out.grown HG4.out hgrow (Nat.le_refl _))
                          have HIe : Hid (its (E ++ [(⟨q1 + 1, now, 0, ⟨⟨k0, r, n, L, dt, y⟩, ax, cx⟩⟩ : Mi)]) = its E ++ [⟨q1 + 1, now, 0, pk ⟨k0, r, n, L, dt, y⟩⟩]) := by
                            show _ = _
                            rw [its_app]; rfl
                          clear hmo hown' hgrow hat HOw HM4 HNw HAp d0 d1 d2 d3 d4 d5
                          go_wp2
                          go_roundw
                          case rel => exact ⟨k + 1, a7, c7, E ++ [(⟨q1 + 1, now, 0, ⟨⟨k0, r, n, L, dt, y⟩, ax, cx⟩⟩ : Mi)], by go_num, by simp, by omega, HMo.out, by rw [HIe.out]; exact HMk2.out, by rw [HIe.out, HRk.out]; exact HY.out, HG7.out⟩
                          case measure => simp [intOf]; omega
                      · have HNq : Hid (Ox.next (its E) f = f) := by show _ = _; rw [hnx, if_neg hfq]
                        clear hnx he1
                        by_cases hbig : 1000000000 < f
                        · have hT : putF f now (its E) (pk m.x) = ([], 180) := by rw [HT0.out, HNq.out, if_pos hbig]
                          rw [hT, if_neg (by simp)] at HY
                          have HR2 : Hid (R = ([], 180)) := by show _ = _; rw [HRk.out]; exact HY.out
                          clear hT HMk
                          obtain ⟨⟨k0, r, n, L, dt, y⟩, ax, cx⟩ := m
                          dsimp only [Mn.v] at *
                          go_wp2_with fail
                          refine (HCk.out _ ?_).mono ?_
                          · exact (by repeat(first|exact Gr.r _|refine Gr.a ?_|refine Gr.d ?_|refine Gr.t ?_ (by assumption)))
                          rintro e5 w5 ⟨rfl, hg5⟩
                          have HGA : Hid (Gr wr w5) := (by repeat(first|exact Gr.r _|refine Gr.a ?_|refine Gr.d ?_|refine Gr.t ?_ (by assumption)))
                          have d0 := HGA.out.keep d0
                          have d1 := HGA.out.keep d1
                          have d2 := HGA.out.keep d2
                          have d3 := HGA.out.keep d3
                          have d4 := HGA.out.keep d4
                          have d5 := HGA.out.keep d5
                          have hbw := Nat.lt_of_lt_of_le hbw HGA.out.size
                          clear hg5 HCk
                          go_wp2_with fail
                          refine (HAm.out _ HGA.out).mono ?_
                          rintro e6 w6 ⟨rfl, hg6⟩
                          have HG2 : Hid (Gr wr w6) := HGA.out.trans hg6
                          have d0 := hg6.keep d0
                          have d1 := hg6.keep d1
                          have d2 := hg6.keep d2
                          have d3 := hg6.keep d3
                          have d4 := hg6.keep d4
                          have d5 := hg6.keep d5
                          have hbw := Nat.lt_of_lt_of_le hbw hg6.size
                          clear hg6 HAm
                          have o0 := HG2.out.keep HO0.out
                          go_wp2
                          go_ret2
                          exact ⟨none, 0, [], by rw [HR2.out]; rfl, Bxs.nil _ _, by rw [HR2.out]; rfl, HG.out.trans HG2.out⟩
                        · have hT : putF f now (its E) (pk m.x) = (its E ++ [⟨f, now, 0, pk m.x⟩], 0) := by rw [HT0.out, HNq.out, if_neg hbig]
                          rw [hT, if_pos rfl] at HY
                          have hMk := HMk.out (by rw [hT])
                          rw [hT] at hMk
                          have HMk2 := Lib.hid hMk
                          clear hT HMk hMk
                          obtain ⟨⟨k0, r, n, L, dt, y⟩, ax, cx⟩ := m
                          dsimp only [Mn.v] at *
                          go_wp2_with fail
                          refine (HCk.out _ ?_).mono ?_
                          · exact (by repeat(first|exact Gr.r _|refine Gr.a ?_|refine Gr.d ?_|refine Gr.t ?_ (by assumption)))
                          rintro e5 w5 ⟨rfl, hg5⟩
                          have HGA : Hid (Gr wr w5) := (by repeat(first|exact Gr.r _|refine Gr.a ?_|refine Gr.d ?_|refine Gr.t ?_ (by assumption)))
                          have d0 := HGA.out.keep d0
                          have d1 := HGA.out.keep d1
                          have d2 := HGA.out.keep d2
                          have d3 := HGA.out.keep d3
                          have d4 := HGA.out.keep d4
                          have d5 := HGA.out.keep d5
                          have hbw := Nat.lt_of_lt_of_le hbw HGA.out.size
                          clear hg5 HCk
                          go_wp2_with fail
                          refine (HAm.out _ HGA.out).mono ?_
                          rintro e6 w6 ⟨rfl, hg6⟩
                          have HG2 : Hid (Gr wr w6) := HGA.out.trans hg6
                          have d0 := hg6.keep d0
                          have d1 := hg6.keep d1
                          have d2 := hg6.keep d2
                          have d3 := hg6.keep d3
                          have d4 := hg6.keep d4
                          have d5 := hg6.keep d5
                          have hbw := Nat.lt_of_lt_of_le hbw hg6.size
                          clear hg6 HAm
                          have o0 := HG2.out.keep HO0.out
                          have HOw := Lib.hid ((HB.out.gr HG2.out).gr ((Gr.refl w6).alloc (o := .cells #[.int .i64 f, .int .i64 now, .int .i64 0, .int .i64 k0, .int .i64 r, .int .i64 n, .slice ax L.length cx, .string dt, .int .i64 y] 73)))
                          have HM4 := Lib.hid ((HNx.out.gr (HG.out.trans HG2.out)).gr ((Gr.refl w6).alloc (o := .cells #[.int .i64 f, .int .i64 now, .int .i64 0, .int .i64 k0, .int .i64 r, .int .i64 n, .slice ax L.length cx, .string dt, .int .i64 y] 73)))
                          have HG4 : Hid (Gr w (w6.alloc (.cells #[.int .i64 f, .int .i64 now, .int .i64 0, .int .i64 k0, .int .i64 r, .int .i64 n, .slice ax L.length cx, .string dt, .int .i64 y] 73))) := (HG.out.trans HG2.out).alloc
                          have hnw := i_new w6 ⟨f, now, 0, ⟨⟨k0, r, n, L, dt, y⟩, ax, cx⟩⟩ 73
                          rw [show (iC ⟨f, now, 0, ⟨⟨k0, r, n, L, dt, y⟩, ax, cx⟩⟩).toArray = #[.int .i64 f, .int .i64 now, .int .i64 0, .int .i64 k0, .int .i64 r, .int .i64 n, .slice ax L.length cx, .string dt, .int .i64 y] from rfl] at hnw
                          have HNw := Lib.hid hnw
                          have HAp : Hid (L ≠ [] → ∀ p, ax = some p → (Value.slice (some ⟨ob, oo, none⟩) E.length c).ownBlock ≠ some p.block) := by
                            intro hne p e kk
                            have h1 := (HB.out.own.lt _ kk).1
                            have h2 := hops_lt HNx.out.hp hne e
                            omega
                          have hlen4 : w.heap.size ≤ w6.heap.size := Nat.le_trans HG.out.size HG2.out.size
                          clear hnw HNx
                          have hm1 : E.length + 1 ≤ maxLen := by unfold maxLen; omega
                          go_wp2_with (first
                            | (at_builtin; refine wpList_append_own_at _ rfl _ _ 53 rfl w.heap.size 73 i0 (.agg #[.int .i64 0, .int .i64 0, .int .i64 0, .int .i64 0, .int .i64 0, .int .i64 0, .slice none 0 0, .string ⟨#[]⟩, .int .i64 0]) 9 96 Tryz.underlying53 hi0 hz0 hz1 hz2 rfl (by decide) _ _ _ rfl HOw.out.own ⟨w6.heap.size, 0, none⟩ 1 1 ([(⟨f, now, 0, ⟨⟨k0, r, n, L, dt, y⟩, ax, cx⟩⟩ : Mi)].flatMap iC) rfl rfl HNw.out (i_one _) hm1 (by omega) (by simp; omega) ?_)
                            | fail)
                          intro v' w7 hown' hgrow _ hat
                          have hmo := Bxs.more (x := ⟨f, now, 0, ⟨⟨k0, r, n, L, dt, y⟩, ax, cx⟩⟩) HOw.out HM4.out HAp.out hown' hgrow (by simpa using hat)
                          obtain ⟨a7, c7, rfl⟩ := own_slice3 hmo
                          have HMo := Lib.hid hmo
                          have HG7 := Lib.hid (HOw.out.grown HG4.out hgrow (Nat.le_refl _))
                          have HIe : Hid (its (E ++ [(⟨f, now, 0, ⟨⟨k0, r, n, L, dt, y⟩, ax, cx⟩⟩ : Mi)]) = its E ++ [⟨f, now, 0, pk ⟨k0, r, n, L, dt, y⟩⟩]) := by
                            show _ = _
                            rw [its_app]; rfl
                          clear hmo hown' hgrow hat HOw HM4 HNw HAp d0 d1 d2 d3 d4 d5
                          go_wp2
                          go_roundw
                          case rel => exact ⟨k + 1, a7, c7, E ++ [(⟨f, now, 0, ⟨⟨k0, r, n, L, dt, y⟩, ax, cx⟩⟩ : Mi)], by go_num, by simp, by omega, HMo.out, by rw [HIe.out]; exact HMk2.out, by rw [HIe.out, HRk.out]; exact HY.out, HG7.out⟩
                          case measure => simp [intOf]; omega
              · rw [h0] at HCk hck
                have hok : okN (pk m.x) = false := hck.symm
                have hT : putF f now (its E) (pk m.x) = ([], 130) := by unfold putF; rw [hok]; rfl
                rw [hT, if_neg (by simp)] at HY
                have HR2 : Hid (R = ([], 130)) := by show _ = _; rw [HRk.out]; exact HY.out
                clear hT HMk hok hck h0 HAm
                obtain ⟨⟨k0, r, n, L, dt, y⟩, ax, cx⟩ := m
                dsimp only [Mn.v] at *
                go_wp2_with fail
                refine (HCk.out _ ?_).mono ?_
                · exact (by repeat(first|exact Gr.r _|refine Gr.a ?_|refine Gr.d ?_|refine Gr.t ?_ (by assumption)))
                rintro e5 w5 ⟨rfl, hg5⟩
                have HGA : Hid (Gr wr w5) := (by repeat(first|exact Gr.r _|refine Gr.a ?_|refine Gr.d ?_|refine Gr.t ?_ (by assumption)))
                have d0 := HGA.out.keep d0
                have d1 := HGA.out.keep d1
                have d2 := HGA.out.keep d2
                have d3 := HGA.out.keep d3
                have d4 := HGA.out.keep d4
                have d5 := HGA.out.keep d5
                have hbw := Nat.lt_of_lt_of_le hbw HGA.out.size
                clear hg5 HCk
                go_wp2
                go_ret2
                exact ⟨none, 0, [], by rw [HR2.out]; rfl, Bxs.nil _ _, by rw [HR2.out]; rfl, HG.out.trans HGA.out⟩
            · have hge : ¬ ((k : Int) < (Q.length : Int)) := by omega
              have HL : Hid (R = (its E, 0)) := by
                show _ = _
                rw [HRk.out, List.drop_eq_nil_of_le (by rw [pks_len]; omega)]; rfl
              clear hg hb hmE hR hit
              go_wp2
              go_ret2
              exact ⟨a, c, E, by rw [HL.out]; rfl, HB.out, by rw [HL.out], HG.out⟩
end Go.Proofs.YthfbpilfdfploaaGreat
namespace Go.Proofs.YthfbpilfdfploaaGreat
open Go.RowKit
open Lk (St)

variable {Z : Nat → Prop}
/- a link in block g -/
structure LkC (Z : Nat → Prop) (w : World) (g : Nat) (l : St Nx) (a : Option Addr) (c : Nat) (E : List Mi) (a2 : Option Addr) (c2 : Nat) : Prop where
  cs : Cs w g [.int .i64 l.me, .int .i64 l.wi, .int .i64 l.ep, .int .i64 l.kn, .slice a E.length c, .int .i64 l.nx, .int .i64 l.wn.low, .slice a2 l.wn.seen.length c2, .bool l.ow]
  rw : RwC Z w l.it l.wn a c E a2 c2
  nz : ¬ Z g
def LkAt (Z : Nat → Prop) (w : World) (g : Nat) (l : St Nx) : Prop := ∃ a c E a2 c2, LkC Z w g l a c E a2 c2
theorem LkC.gr {w w' : World} {g : Nat} {l : St Nx} {a : Option Addr} {c : Nat} {E : List Mi} {a2 : Option Addr} {c2 : Nat} (h : LkC Z w g l a c E a2 c2) (k : Gr w w') : LkC Z w' g l a c E a2 c2 := ⟨h.cs.gr k, h.rw.gr k, h.nz⟩
theorem LkAt.gr {w w' : World} {g : Nat} {l : St Nx} (h : LkAt Z w g l) (k : Gr w w') : LkAt Z w' g l := by
  obtain ⟨a, c, E, a2, c2, h⟩ := h
  exact ⟨a, c, E, a2, c2, h.gr k⟩
theorem LkAt.gb {b : Nat} {w w' : World} {g : Nat} {l : St Nx} (h : LkAt Z w g l) (k : GB b w w') (hb : ¬ Z b) (hg : g ≠ b) : LkAt Z w' g l := by
  obtain ⟨a, c, E, a2, c2, h⟩ := h
  exact ⟨a, c, E, a2, c2, k.cs h.cs hg, h.rw.gb k hb, h.nz⟩
theorem LkAt.nz {w : World} {g : Nat} {l : St Nx} (h : LkAt Z w g l) : ¬ Z g := by
  obtain ⟨a, c, E, a2, c2, h⟩ := h
  exact h.nz
theorem LkAt.lt {w : World} {g : Nat} {l : St Nx} (h : LkAt Z w g l) : g < w.heap.size := by
  obtain ⟨a, c, E, a2, c2, h⟩ := h
  exact h.cs.lt
/- cells are written -/
theorem LkC.items {w : World} {g : Nat} {l : St Nx} {a : Option Addr} {c : Nat} {E : List Mi} {a2 : Option Addr} {c2 : Nat} (h : LkC Z w g l a c E a2 c2) {b : Option Addr} {d : Nat} {F : List Mi} (hF : BxN Z w b d F) :
    LkC Z (w.setCell ⟨g, 4, none⟩ (.slice b F.length d)) g { l with it := its F } b d F a2 c2 :=
  ⟨h.cs.set 4 (by simp) _, (h.rw.items hF).gb (gb_set _ _ _ _) h.nz, h.nz⟩
theorem LkC.next {w : World} {g : Nat} {l : St Nx} {a : Option Addr} {c : Nat} {E : List Mi} {a2 : Option Addr} {c2 : Nat} (h : LkC Z w g l a c E a2 c2) (n : Int) :
    LkC Z (w.setCell ⟨g, 5, none⟩ (.int .i64 n)) g { l with nx := n } a c E a2 c2 :=
  ⟨h.cs.set 5 (by simp) _, h.rw.gb (gb_set _ _ _ _) h.nz, h.nz⟩
theorem LkC.know {w : World} {g : Nat} {l : St Nx} {a : Option Addr} {c : Nat} {E : List Mi} {a2 : Option Addr} {c2 : Nat} (h : LkC Z w g l a c E a2 c2) (n : Int) :
    LkC Z (w.setCell ⟨g, 3, none⟩ (.int .i64 n)) g { l with kn := n } a c E a2 c2 :=
  ⟨h.cs.set 3 (by simp) _, h.rw.gb (gb_set _ _ _ _) h.nz, h.nz⟩
theorem LkC.owe {w : World} {g : Nat} {l : St Nx} {a : Option Addr} {c : Nat} {E : List Mi} {a2 : Option Addr} {c2 : Nat} (h : LkC Z w g l a c E a2 c2) (o : Bool) :
    LkC Z (w.setCell ⟨g, 8, none⟩ (.bool o)) g { l with ow := o } a c E a2 c2 :=
  ⟨h.cs.set 8 (by simp) _, h.rw.gb (gb_set _ _ _ _) h.nz, h.nz⟩
theorem LkC.window {w : World} {g : Nat} {l : St Nx} {a : Option Addr} {c : Nat} {E : List Mi} {a2 : Option Addr} {c2 : Nat} (h : LkC Z w g l a c E a2 c2) {b : Option Addr} {d : Nat} {W : Wn.Wd} (hW : WdAt w b d W) (hn : W.seen ≠ [] → ∀ p, b = some p → Z p.block) :
    LkC Z ((w.setCell ⟨g, 6, none⟩ (.int .i64 W.low)).setCell ⟨g, 7, none⟩ (.slice b W.seen.length d)) g { l with wn := W } a c E b d :=
  ⟨(h.cs.set 6 (by simp) _).set 7 (by simp) _, ((h.rw.window hW hn).gb (gb_set _ _ _ _) h.nz).gb (gb_set _ _ _ _) h.nz, h.nz⟩

/- what the document's New answers -/
def NwR (me pe ep : Int) (w : World) (e : Ending) (w' : World) : Prop :=
  if Lk.newB me pe ep = true then (∃ g, e = .returned (.tuple #[.pointer (some ⟨g, 0, none⟩), .int .i64 0]) ∧ (∀ Z, ¬ Z g → LkAt Z w' g (Lk.new me pe ep)) ∧ w.heap.size ≤ g ∧ Gr w w') else (e = .returned (.tuple #[.pointer none, .int .i64 2]) ∧ Gr w w')
theorem lk_new {w : World} {me pe ep : Int} {t : TypeId} {g : Nat} (hg : g = w.heap.size) (hz : ¬ Z g) : LkAt Z (w.alloc (.cells #[.int .i64 me, .int .i64 pe, .int .i64 ep, .int .i64 0, .slice none 0 0, .int .i64 1, .int .i64 0, .slice none 0 0, .bool false] t)) g (Lk.new me pe ep) := by
  subst hg
  exact ⟨none, 0, [], none, 0, Cs.new _ _ _ _ rfl, ⟨ItsAt.nil, rfl, Nat.le_refl _, by simp, wd_none _, (fun h => absurd rfl h), (fun h => absurd rfl h)⟩, hz⟩
set_option maxHeartbeats 4000000 in
set_option maxRecDepth 100000 in
theorem rNew_any (me pe ep : Int) (w : World) : Calls Tryz.prog 7 #[.int .i64 me, .int .i64 pe, .int .i64 ep] w fun e w' => NwR me pe ep w e w' := by
  by_cases h : Lk.newB me pe ep = true
  · have HB := Lib.hid h
    have h' := of_decide_eq_true h
    obtain ⟨h1, h2, h3, h4, h5, h6, h7⟩ := h'
    have g1 : ¬ me < 0 := by omega
    have g2 : ¬ 15 < me := by omega
    have g3 : ¬ pe < 0 := by omega
    have g4 : ¬ 15 < pe := by omega
    have g5 : (me == pe) = false := by rw [beq_eq_false_iff_ne]; exact h5
    have g6 : ¬ ep < 1 := by omega
    have g6a : ¬ ep ≤ 0 := by omega
    have g7 : ¬ 1000000000 < ep := by omega
    clear h h1 h2 h3 h4 h6 h7
    go_enter Tryz.func7, Tryz.ntmps7
    go_wp2
    go_ret2
    show NwR _ _ _ _ _ _
    unfold NwR
    rw [if_pos HB.out]
    exact ⟨w.heap.size, rfl, fun Z hz => lk_new rfl hz, Nat.le_refl _, (Gr.refl _).alloc⟩
  · have HN : Hid (¬ Lk.newB me pe ep = true) := h
    have HO : Hid (me < 0 ∨ 15 < me ∨ pe < 0 ∨ 15 < pe ∨ me = pe ∨ ep < 1 ∨ 1000000000 < ep) := by
      refine Lib.hid ?_
      unfold Lk.newB at h
      rw [decide_eq_true_eq] at h
      exact Classical.byContradiction fun hc => h ⟨by omega, by omega, by omega, by omega, by omega, by omega, by omega⟩
    clear h
    have HW : Hid (∀ e w', e = .returned (.tuple #[.pointer none, .int .i64 2]) → w' = w → NwR me pe ep w e w') := by
      rintro e w' rfl rfl
      unfold NwR
      rw [if_neg HN.out]
      exact ⟨rfl, Gr.refl _⟩
    clear HN
    by_cases g1 : me < 0
    · clear HO
      go_enter Tryz.func7, Tryz.ntmps7
      go_wp2
      go_ret2
      exact HW.out _ _ rfl rfl
    · by_cases g2 : 15 < me
      · clear HO
        go_enter Tryz.func7, Tryz.ntmps7
        go_wp2
        go_ret2
        exact HW.out _ _ rfl rfl
      · by_cases g3 : pe < 0
        · clear HO
          go_enter Tryz.func7, Tryz.ntmps7
          go_wp2
          go_ret2
          exact HW.out _ _ rfl rfl
        · by_cases g4 : 15 < pe
          · clear HO
            go_enter Tryz.func7, Tryz.ntmps7
            go_wp2
            go_ret2
            exact HW.out _ _ rfl rfl
          · by_cases g5 : me = pe
            · clear HO
              subst g5
              go_enter Tryz.func7, Tryz.ntmps7
              go_wp2
              go_ret2
              exact HW.out _ _ rfl rfl
            · have g5' : (me == pe) = false := by rw [beq_eq_false_iff_ne]; exact g5
              clear g5
              by_cases g6 : ep < 1
              · have g6a : ep ≤ 0 := by omega
                clear HO
                go_enter Tryz.func7, Tryz.ntmps7
                go_wp2
                go_ret2
                exact HW.out _ _ rfl rfl
              · have g7 : 1000000000 < ep := by
                  have := HO.out
                  rw [beq_eq_false_iff_ne] at g5'
                  omega
                have g6a : ¬ ep ≤ 0 := by omega
                clear HO
                go_enter Tryz.func7, Tryz.ntmps7
                go_wp2
                go_ret2
                exact HW.out _ _ rfl rfl

set_option maxHeartbeats 4000000 in
set_option maxRecDepth 100000 in
theorem rWaits_any (g : Nat) (l : St Nx) (m : Mn) (w : World) (h : LkAt Z w g l) (hm : MnAt Z w m) :
    Calls Tryz.prog 18 #[.pointer (some ⟨g, 0, none⟩), m.v] w fun e w' => e = .returned (.bool (Ox.hasB okN l.it (pk m.x))) ∧ Gr w w' := by
  obtain ⟨a, c, E, a2, c2, h⟩ := h
  have HH : Hid (∀ w', Gr w w' → Calls Tryz.prog 43 #[.slice a E.length c, m.v] w' fun e w2 => e = .returned (.bool (Ox.hasB okN l.it (pk m.x))) ∧ Gr w' w2) := fun w' k => by
    have := rHas_any E m a c w' (h.rw.row.gr k) h.rw.ec h.rw.en (hm.gr k)
    rw [h.rw.e] at this
    exact this
  have c4 := h.cs.at_ 4 _ rfl
  have clt := h.cs.lt
  generalize Ox.hasB okN l.it (pk m.x) = R at *
  clear h hm
  obtain ⟨⟨k0, r, n, L, d, y⟩, ad2, cap2⟩ := m
  dsimp only [Mn.v] at *
  generalize L.length = ll at *
  generalize E.length = le at *
  have hgW : Gr w (w.alloc (.cells #[.int .i64 k0, .int .i64 r, .int .i64 n, .slice ad2 ll cap2, .string d, .int .i64 y] 36)) := (Gr.refl _).alloc
  have b0 := hgW.keep c4
  have B1 := Cs.new w [.int .i64 k0, .int .i64 r, .int .i64 n, .slice ad2 ll cap2, .string d, .int .i64 y] 36 _ rfl
  have z0 := B1.at_ 0 _ rfl
  have z1 := B1.at_ 1 _ rfl
  have z2 := B1.at_ 2 _ rfl
  have z3 := B1.at_ 3 _ rfl
  have z4 := B1.at_ 4 _ rfl
  have z5 := B1.at_ 5 _ rfl
  have zf0 := B1.fz 0 (by simp)
  have zf1 := B1.fz 1 (by simp)
  have zf2 := B1.fz 2 (by simp)
  have zf3 := B1.fz 3 (by simp)
  have zf4 := B1.fz 4 (by simp)
  have zf5 := B1.fz 5 (by simp)
  have zlt := B1.lt
  go_enter Tryz.func18, Tryz.ntmps18
  go_wp2_with fail
  refine wp_region_held_drew (S := (fun w' => Gr w w' ∧ w'.cell? ⟨g, 4, none⟩ = some (.slice a le c) ∧ w'.cell? ⟨w.heap.size, 0, none⟩ = some (.int .i64 k0) ∧ w'.cell? ⟨w.heap.size, 1, none⟩ = some (.int .i64 r) ∧ w'.cell? ⟨w.heap.size, 2, none⟩ = some (.int .i64 n) ∧ w'.cell? ⟨w.heap.size, 3, none⟩ = some (.slice ad2 ll cap2) ∧ w'.cell? ⟨w.heap.size, 4, none⟩ = some (.string d) ∧ w'.cell? ⟨w.heap.size, 5, none⟩ = some (.int .i64 y))) (by kernel_rfl) (by exact ⟨(by repeat(first|exact Gr.r _|refine Gr.a ?_|refine Gr.d ?_|refine Gr.t ?_ (by assumption))), Gr.keep (by repeat(first|exact Gr.r _|refine Gr.a ?_|refine Gr.d ?_|refine Gr.t ?_ (by assumption))) b0, Gr.keep (by repeat(first|exact Gr.r _|refine Gr.a ?_|refine Gr.d ?_|refine Gr.t ?_ (by assumption))) z0, Gr.keep (by repeat(first|exact Gr.r _|refine Gr.a ?_|refine Gr.d ?_|refine Gr.t ?_ (by assumption))) z1, Gr.keep (by repeat(first|exact Gr.r _|refine Gr.a ?_|refine Gr.d ?_|refine Gr.t ?_ (by assumption))) z2, Gr.keep (by repeat(first|exact Gr.r _|refine Gr.a ?_|refine Gr.d ?_|refine Gr.t ?_ (by assumption))) z3, Gr.keep (by repeat(first|exact Gr.r _|refine Gr.a ?_|refine Gr.d ?_|refine Gr.t ?_ (by assumption))) z4, Gr.keep (by repeat(first|exact Gr.r _|refine Gr.a ?_|refine Gr.d ?_|refine Gr.t ?_ (by assumption))) z5⟩) (fun hHeld => ?_)
  refine ty 0 5 hHeld ?_
  refine ty 1 6 hHeld ?_
  refine ty 2 7 hHeld ?_
  refine ty 3 8 hHeld ?_
  refine ty 4 9 hHeld ?_
  refine wpAnyH_ready (rs := [5]) (by kernel_rfl) (by simp) (AllReadyH.cons rfl (fun K hK => ?_) AllReadyH.nil)
  go_simp
  (go_at_call 43; refine (HH.out _ hHeld.1).mono ?_; rintro e wn ⟨rfl, hgn⟩)
  (try go_wp2_with fail)
  refine hK.out _ _ (by exact ⟨(by repeat(first|exact Gr.r _|refine Gr.a ?_|refine Gr.d ?_|refine Gr.t ?_ (by assumption))), Gr.keep (by repeat(first|exact Gr.r _|refine Gr.a ?_|refine Gr.d ?_|refine Gr.t ?_ (by assumption))) b0, Gr.keep (by repeat(first|exact Gr.r _|refine Gr.a ?_|refine Gr.d ?_|refine Gr.t ?_ (by assumption))) z0, Gr.keep (by repeat(first|exact Gr.r _|refine Gr.a ?_|refine Gr.d ?_|refine Gr.t ?_ (by assumption))) z1, Gr.keep (by repeat(first|exact Gr.r _|refine Gr.a ?_|refine Gr.d ?_|refine Gr.t ?_ (by assumption))) z2, Gr.keep (by repeat(first|exact Gr.r _|refine Gr.a ?_|refine Gr.d ?_|refine Gr.t ?_ (by assumption))) z3, Gr.keep (by repeat(first|exact Gr.r _|refine Gr.a ?_|refine Gr.d ?_|refine Gr.t ?_ (by assumption))) z4, Gr.keep (by repeat(first|exact Gr.r _|refine Gr.a ?_|refine Gr.d ?_|refine Gr.t ?_ (by assumption))) z5⟩) (fun hHeldN => ?_)
  clear hHeld hK K
  have hHeld := hHeldN
  clear hHeldN
  refine ty 6 4 hHeld ?_
  refine wpAnyH_done (by kernel_rfl) ?_ _
  go_wp2
  go_ret
  exact ⟨rfl, hHeld.1⟩
end Go.Proofs.YthfbpilfdfploaaGreat
