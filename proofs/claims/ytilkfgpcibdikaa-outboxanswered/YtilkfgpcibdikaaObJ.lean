
/- outbox: put, Push. -/
import Derived.Test.YtilkfgpcibdikaaObI
namespace Go.Proofs.Ytilkfgpcibdikaa
open Go.RowKit

/- one note of Push -/
def putF (f now : Int) (l : List (Ox.It Nx)) (p : Nx) : List (Ox.It Nx) × Int :=
  if okN p = true then (if Ox.among l p = true then (l, 0) else if l.length = 12 then ([], 190) else if 1000000000 < Ox.next l f then ([], 180) else (l ++ [⟨Ox.next l f, now, 0, p⟩], 0)) else ([], 130)
theorem push_cons (f now : Int) (l : List (Ox.It Nx)) (p : Nx) (r : List Nx) : Ox.pushF okN f now l (p :: r) = if (putF f now l p).2 = 0 then Ox.pushF okN f now (putF f now l p).1 r else ([], (putF f now l p).2) := by
  unfold putF
  rw [Ox.pushF]
  split
  · split
    · rfl
    · split
      · rfl
      · split <;> rfl
  · rfl
theorem put_may {f now : Int} {l : List (Ox.It Nx)} (p : Nx) (hf : 1 ≤ f) (ht : Ox.tmB now = true) (h : Ox.mayB okN l = true) (h0 : (putF f now l p).2 = 0) : Ox.mayB okN (putF f now l p).1 = true := by
  have hm := (Ox.mayB_iff _ _).1 h
  unfold putF at h0 ⊢
  split at h0
  · rename_i hn
    rw [if_pos hn]
    split at h0
    · rename_i ha
      rw [if_pos ha]; exact h
    · rename_i ha
      rw [if_neg ha]
      split at h0
      · cases h0
      · rename_i hl
        rw [if_neg hl]
        split at h0
        · cases h0
        · rename_i hx
          rw [if_neg hx]
          exact (Ox.mayB_iff _ _).2 (Ox.may_snoc hm hn (by simpa using ha) hl (by omega) hf ht)
  · cases h0
/- what put answers -/
def PtR (w0 : World) (r : List (Ox.It Nx) × Int) (e : Ending) (w' : World) : Prop :=
  ∃ a c E, e = .returned (.tuple #[.slice a E.length c, .int .i64 r.2]) ∧ Bxs w' w0.heap.size (.slice a E.length c) E ∧ its E = r.1 ∧ Gr w0 w'
set_option maxHeartbeats 8000000 in
set_option maxRecDepth 100000 in
theorem put_any (D : List Mi) (f now : Int) (m : Mn) (a : Option Addr) (c : Nat) (w0 w : World) (hb : Bxs w w0.heap.size (.slice a D.length c) D) (hg : Gr w0 w) (hm : MnAt w m) (hmay : Ox.mayB okN (its D) = true) :
    Calls Try.prog 27 #[.slice a D.length c, .int .i64 f, .int .i64 now, m.v] w fun e w' => PtR w0 (putF f now (its D) (pk m.x)) e w' := by
  obtain ⟨i0, hi0, hz0, hz1, hz2⟩ := info_parts infoItem
  have hl12 := mayB_len hmay
  obtain ⟨ad2, cap2, e2, _, _, hit, _⟩ := hb.at
  cases e2
  have HN : Hid (∀ w', Gr w w' → Calls Try.prog 41 #[m.v] w' fun e w2 => e = .returned (.int .i64 (Nt.ckE m.x)) ∧ Gr w' w2) := fun w' g => nCheck_any m.x.k m.x.r m.x.n m.x.L m.x.d m.x.y m.ad m.cap w' (hm.hp.gr g) hm.hl hm.hd
  have HH : Hid (∀ w', Gr w w' → Calls Try.prog 31 #[.slice a D.length c, m.v] w' fun e w2 => e = .returned (.bool (Ox.among (its D) (pk m.x))) ∧ Gr w' w2) := fun w' g => has_any D m a c w' (hit.gr g) (by omega) (hm.gr g)
  have HX : Hid (∀ w', Gr w w' → Calls Try.prog 42 #[.slice a D.length c, .int .i64 f] w' fun e w2 => e = .returned (.int .i64 (Ox.next (its D) f)) ∧ Gr w' w2) := fun w' g => nextNumber_any D f a c w' (hit.gr g).row (by omega) (fun x hx => (may_one hmay x.it (List.mem_map.2 ⟨x, hx, rfl⟩)).1)
  have HF : Hid (okN (pk m.x) = true → ∀ q w', Gr w w' → Calls Try.prog 39 #[.int .i64 q, .int .i64 now, m.v] w' fun e w2 => ∃ a c, e = .returned (Mi.v ⟨q, now, 0, ⟨m.x, a, c⟩⟩) ∧ MnAt w2 ⟨m.x, a, c⟩ ∧ (∀ p, a = some p → w'.heap.size ≤ p.block) ∧ Gr w' w2) := fun hok q w' g => by
    obtain ⟨h1, h2⟩ := nt_small (x := m.x) (by rw [← okN_pk]; exact hok)
    exact fresh_any q now m w' (hm.gr g) (by omega) (by omega)
  have hck := ck_okN m.x
  have hok0 : okN (pk m.x) = true → Nt.ckE m.x = 0 := fun h => by rw [h] at hck; simpa using hck
  have hok1 : okN (pk m.x) = false → Nt.ckE m.x = 130 := fun h => by
    rw [okN_pk] at h
    unfold Nt.ckE; rw [h]; rfl
  have HP : Hid (putF f now (its D) (pk m.x) = if okN (pk m.x) = true then (if Ox.among (its D) (pk m.x) = true then (its D, 0) else if D.length = 12 then ([], 190) else if 1000000000 < Ox.next (its D) f then ([], 180) else (its D ++ [⟨Ox.next (its D) f, now, 0, pk m.x⟩], 0)) else ([], 130)) := by
    show _ = _
    unfold putF
    rw [its_len]
  have HB := Lib.hid hb
  have HG := Lib.hid hg
  unfold PtR
  generalize putF f now (its D) (pk m.x) = R at *
  clear hb hg hm hmay hit hck
  have hsz : w0.heap.size ≤ w.heap.size := HG.out.size
  cases ho : okN (pk m.x) with
  | false =>
    rw [hok1 ho] at HN
    rw [ho] at HP
    have HR : Hid (R = ([], 130)) := HP.out
    clear HP HF HX HH hok0 hok1 ho
    obtain ⟨⟨k, r, n, L, d, y⟩, ad, cap⟩ := m
    dsimp only [Mn.v, Mi.v] at *
    generalize L.length = ll at *
    go_enter Try.func27, Try.ntmps27
    go_wp2_with fail
    refine (HN.out _ ?_).mono ?_
    · exact (by repeat (first | exact Gr.refl _ | refine Gr.alloc ?_ | refine Gr.drew ?_ | refine Gr.trans ?_ (by assumption)))
    rintro e1 w1 ⟨rfl, hg1⟩
    go_wp2
    go_ret2
    exact ⟨none, 0, [], by rw [HR.out]; rfl, Bxs.nil _ _, by rw [HR.out]; rfl, HG.out.trans (by repeat (first | exact Gr.refl _ | refine Gr.alloc ?_ | refine Gr.drew ?_ | refine Gr.trans ?_ (by assumption)))⟩
  | true =>
    rw [hok0 ho] at HN
    rw [ho, if_pos rfl] at HP
    replace HF := Lib.hid (HF.out ho)
    clear hok0 hok1 ho
    cases ha : Ox.among (its D) (pk m.x) with
    | true =>
      rw [ha] at HP HH
      have HR : Hid (R = (its D, 0)) := HP.out
      clear HP HF HX ha
      obtain ⟨⟨k, r, n, L, d, y⟩, ad, cap⟩ := m
      dsimp only [Mn.v, Mi.v] at *
      generalize L.length = ll at *
      go_enter Try.func27, Try.ntmps27
      go_wp2_with fail
      refine (HN.out _ ?_).mono ?_
      · exact (by repeat (first | exact Gr.refl _ | refine Gr.alloc ?_ | refine Gr.drew ?_ | refine Gr.trans ?_ (by assumption)))
      rintro e1 w1 ⟨rfl, hg1⟩
      have HG1 : Hid (Gr w w1) := (by repeat (first | exact Gr.refl _ | refine Gr.alloc ?_ | refine Gr.drew ?_ | refine Gr.trans ?_ (by assumption)))
      have B1 := (Cs.new w [.int .i64 k, .int .i64 r, .int .i64 n, .slice ad ll cap, .string d, .int .i64 y] 37 _ rfl).gr hg1
      have c0 := B1.at_ 0 _ rfl
      have c1 := B1.at_ 1 _ rfl
      have c2 := B1.at_ 2 _ rfl
      have c3 := B1.at_ 3 _ rfl
      have c4 := B1.at_ 4 _ rfl
      have c5 := B1.at_ 5 _ rfl
      have cf0 := B1.fz 0 (by simp)
      have cf1 := B1.fz 1 (by simp)
      have cf2 := B1.fz 2 (by simp)
      have cf3 := B1.fz 3 (by simp)
      have cf4 := B1.fz 4 (by simp)
      have cf5 := B1.fz 5 (by simp)
      have clt := B1.lt
      clear hg1 B1 HN
      go_wp2_with fail
      refine (HH.out _ HG1.out).mono ?_
      rintro e2 w2 ⟨rfl, hg2⟩
      have HG2 := Lib.hid (HG1.out.trans hg2)
      clear hg2
      go_wp2
      go_ret2
      exact ⟨a, c, D, by rw [HR.out]; rfl, HB.out.gr HG2.out, by rw [HR.out], HG.out.trans HG2.out⟩
    | false =>
      rw [ha] at HP HH
      rw [if_neg (by simp)] at HP
      by_cases h12 : D.length = 12
      · rw [if_pos h12] at HP
        have HR : Hid (R = ([], 190)) := HP.out
        have h12' : (12 : Int) ≤ (D.length : Int) := by omega
        clear HP HF HX ha
        generalize D.length = ld at *
        obtain ⟨⟨k, r, n, L, d, y⟩, ad, cap⟩ := m
        dsimp only [Mn.v, Mi.v] at *
        generalize L.length = ll at *
        clear h12
        go_enter Try.func27, Try.ntmps27
        go_wp2_with fail
        refine (HN.out _ ?_).mono ?_
        · exact (by repeat (first | exact Gr.refl _ | refine Gr.alloc ?_ | refine Gr.drew ?_ | refine Gr.trans ?_ (by assumption)))
        rintro e1 w1 ⟨rfl, hg1⟩
        have HG1 : Hid (Gr w w1) := (by repeat (first | exact Gr.refl _ | refine Gr.alloc ?_ | refine Gr.drew ?_ | refine Gr.trans ?_ (by assumption)))
        have B1 := (Cs.new w [.int .i64 k, .int .i64 r, .int .i64 n, .slice ad ll cap, .string d, .int .i64 y] 37 _ rfl).gr hg1
        have c0 := B1.at_ 0 _ rfl
        have c1 := B1.at_ 1 _ rfl
        have c2 := B1.at_ 2 _ rfl
        have c3 := B1.at_ 3 _ rfl
        have c4 := B1.at_ 4 _ rfl
        have c5 := B1.at_ 5 _ rfl
        have cf0 := B1.fz 0 (by simp)
        have cf1 := B1.fz 1 (by simp)
        have cf2 := B1.fz 2 (by simp)
        have cf3 := B1.fz 3 (by simp)
        have cf4 := B1.fz 4 (by simp)
        have cf5 := B1.fz 5 (by simp)
        have clt := B1.lt
        clear hg1 B1 HN
        go_wp2_with fail
        refine (HH.out _ HG1.out).mono ?_
        rintro e2 w2 ⟨rfl, hg2⟩
        have HG2 := Lib.hid (HG1.out.trans hg2)
        clear hg2
        go_wp2
        go_ret2
        exact ⟨none, 0, [], by rw [HR.out]; rfl, Bxs.nil _ _, by rw [HR.out]; rfl, HG.out.trans HG2.out⟩
      · rw [if_neg h12] at HP
        have h12' : ¬ (12 : Int) ≤ (D.length : Int) := by omega
        have hD11 : D.length ≤ 11 := by omega
        have HNi : Hid (its (D ++ [(⟨Ox.next (its D) f, now, 0, m⟩ : Mi)]) = its D ++ [⟨Ox.next (its D) f, now, 0, pk m.x⟩]) := by
          show _ = _
          rw [its_app]; rfl
        generalize Ox.next (its D) f = q at *
        by_cases hq : 1000000000 < q
        · rw [if_pos hq] at HP
          have HR : Hid (R = ([], 180)) := HP.out
          clear HP HF ha HNi
          obtain ⟨⟨k, r, n, L, d, y⟩, ad, cap⟩ := m
          dsimp only [Mn.v, Mi.v] at *
          generalize L.length = ll at *
          go_enter Try.func27, Try.ntmps27
          go_wp2_with fail
          refine (HN.out _ ?_).mono ?_
          · exact (by repeat (first | exact Gr.refl _ | refine Gr.alloc ?_ | refine Gr.drew ?_ | refine Gr.trans ?_ (by assumption)))
          rintro e1 w1 ⟨rfl, hg1⟩
          have HG1 : Hid (Gr w w1) := (by repeat (first | exact Gr.refl _ | refine Gr.alloc ?_ | refine Gr.drew ?_ | refine Gr.trans ?_ (by assumption)))
          have B1 := (Cs.new w [.int .i64 k, .int .i64 r, .int .i64 n, .slice ad ll cap, .string d, .int .i64 y] 37 _ rfl).gr hg1
          have c0 := B1.at_ 0 _ rfl
          have c1 := B1.at_ 1 _ rfl
          have c2 := B1.at_ 2 _ rfl
          have c3 := B1.at_ 3 _ rfl
          have c4 := B1.at_ 4 _ rfl
          have c5 := B1.at_ 5 _ rfl
          have cf0 := B1.fz 0 (by simp)
          have cf1 := B1.fz 1 (by simp)
          have cf2 := B1.fz 2 (by simp)
          have cf3 := B1.fz 3 (by simp)
          have cf4 := B1.fz 4 (by simp)
          have cf5 := B1.fz 5 (by simp)
          have clt := B1.lt
          clear hg1 B1 HN
          go_wp2_with fail
          refine (HH.out _ HG1.out).mono ?_
          rintro e2 w2 ⟨rfl, hg2⟩
          have HG2 := Lib.hid (HG1.out.trans hg2)
          clear hg2
          go_wp2_with fail
          refine (HX.out _ HG2.out).mono ?_
          rintro e3 w3 ⟨rfl, hg3⟩
          have HG3 := Lib.hid (HG2.out.trans hg3)
          clear hg3
          go_wp2
          go_ret2
          exact ⟨none, 0, [], by rw [HR.out]; rfl, Bxs.nil _ _, by rw [HR.out]; rfl, HG.out.trans HG3.out⟩
        · rw [if_neg hq] at HP
          replace HF := Lib.hid (HF.out q)
          clear ha HNi
          obtain ⟨⟨k, r, n, L, d, y⟩, ad, cap⟩ := m
          dsimp only [Mn.v, Mi.v] at *
          go_enter Try.func27, Try.ntmps27
          go_wp2_with fail
          refine (HN.out _ ?_).mono ?_
          · exact (by repeat (first | exact Gr.refl _ | refine Gr.alloc ?_ | refine Gr.drew ?_ | refine Gr.trans ?_ (by assumption)))
          rintro e1 w1 ⟨rfl, hg1⟩
          have HG1 : Hid (Gr w w1) := (by repeat (first | exact Gr.refl _ | refine Gr.alloc ?_ | refine Gr.drew ?_ | refine Gr.trans ?_ (by assumption)))
          have B1 := (Cs.new w [.int .i64 k, .int .i64 r, .int .i64 n, .slice ad L.length cap, .string d, .int .i64 y] 37 _ rfl).gr hg1
          have c0 := B1.at_ 0 _ rfl
          have c1 := B1.at_ 1 _ rfl
          have c2 := B1.at_ 2 _ rfl
          have c3 := B1.at_ 3 _ rfl
          have c4 := B1.at_ 4 _ rfl
          have c5 := B1.at_ 5 _ rfl
          have cf0 := B1.fz 0 (by simp)
          have cf1 := B1.fz 1 (by simp)
          have cf2 := B1.fz 2 (by simp)
          have cf3 := B1.fz 3 (by simp)
          have cf4 := B1.fz 4 (by simp)
          have cf5 := B1.fz 5 (by simp)
          have clt := B1.lt
          clear hg1 HN
          go_wp2_with fail
          refine (HH.out _ HG1.out).mono ?_
          rintro e2 w2 ⟨rfl, hg2⟩
          have HG2 := Lib.hid (HG1.out.trans hg2)
          have B2 := B1.gr hg2
          clear hg2 HH
          go_wp2_with fail
          refine (HX.out _ HG2.out).mono ?_
          rintro e3 w3 ⟨rfl, hg3⟩
          have HG3 := Lib.hid (HG2.out.trans hg3)
          have B3 := B2.gr hg3
          clear c0 c1 c2 c3 c4 c5 cf0 cf1 cf2 cf3 cf4 cf5 clt B1 B2 hg3 HX
          have c0 := B3.at_ 0 _ rfl
          have c1 := B3.at_ 1 _ rfl
          have c2 := B3.at_ 2 _ rfl
          have c3 := B3.at_ 3 _ rfl
          have c4 := B3.at_ 4 _ rfl
          have c5 := B3.at_ 5 _ rfl
          have cf0 := B3.fz 0 (by simp)
          have cf1 := B3.fz 1 (by simp)
          have cf2 := B3.fz 2 (by simp)
          have cf3 := B3.fz 3 (by simp)
          have cf4 := B3.fz 4 (by simp)
          have cf5 := B3.fz 5 (by simp)
          have clt := B3.lt
          go_wp2_with fail
          refine (HF.out _ HG3.out).mono ?_
          rintro e4 w4 ⟨a2, c2', rfl, hm2, hf2, hg4⟩
          have g4 : Gr w w4 := HG3.out.trans hg4
          have HOw := Lib.hid ((HB.out.gr g4).gr ((Gr.refl w4).alloc (o := .cells #[.int .i64 q, .int .i64 now, .int .i64 0, .int .i64 k, .int .i64 r, .int .i64 n, .slice a2 L.length c2', .string d, .int .i64 y] 48)))
          have HM4 := Lib.hid (hm2.gr ((Gr.refl w4).alloc (o := .cells #[.int .i64 q, .int .i64 now, .int .i64 0, .int .i64 k, .int .i64 r, .int .i64 n, .slice a2 L.length c2', .string d, .int .i64 y] 48)))
          have HG4 : Hid (Gr w0 (w4.alloc (.cells #[.int .i64 q, .int .i64 now, .int .i64 0, .int .i64 k, .int .i64 r, .int .i64 n, .slice a2 L.length c2', .string d, .int .i64 y] 48))) := (HG.out.trans g4).alloc
          have hnw := i_new w4 ⟨q, now, 0, ⟨⟨k, r, n, L, d, y⟩, a2, c2'⟩⟩ 48
          rw [show (iC ⟨q, now, 0, ⟨⟨k, r, n, L, d, y⟩, a2, c2'⟩⟩).toArray = #[.int .i64 q, .int .i64 now, .int .i64 0, .int .i64 k, .int .i64 r, .int .i64 n, .slice a2 L.length c2', .string d, .int .i64 y] from rfl] at hnw
          have HNw := Lib.hid hnw
          have HAp : Hid (L ≠ [] → ∀ p, a2 = some p → (Value.slice a D.length c).ownBlock ≠ some p.block) := fun _ => ap_new HB.out (fun p e => by have := hf2 p e; have := HG3.out.size; omega)
          have hlen4 : w0.heap.size ≤ w4.heap.size := by have := g4.size; omega
          clear hm2 hf2 hg4 g4 hnw HF c0 c1 c2 c3 c4 c5 cf0 cf1 cf2 cf3 cf4 cf5 clt B3
          have hm1 : D.length + 1 ≤ maxLen := by unfold maxLen; omega
          go_wp2_with (first
            | (at_builtin; refine wpList_append_own_at _ rfl _ _ 22 rfl w0.heap.size 48 i0 (.agg #[.int .i64 0, .int .i64 0, .int .i64 0, .int .i64 0, .int .i64 0, .int .i64 0, .slice none 0 0, .string ⟨#[]⟩, .int .i64 0]) 9 96 Try.underlying22 hi0 hz0 hz1 hz2 rfl (by decide) _ _ _ rfl HOw.out.own ⟨w4.heap.size, 0, none⟩ 1 1 ([(⟨q, now, 0, ⟨⟨k, r, n, L, d, y⟩, a2, c2'⟩⟩ : Mi)].flatMap iC) rfl rfl HNw.out (i_one _) hm1 (by omega) (by simp; omega) ?_)
            | fail)
          intro v' w5 hown' hgrow _ hat
          have hmo := Bxs.more (x := ⟨q, now, 0, ⟨⟨k, r, n, L, d, y⟩, a2, c2'⟩⟩) HOw.out HM4.out HAp.out hown' hgrow (by simpa using hat)
          obtain ⟨a5, c5, rfl⟩ := own_slice3 hmo
          have HMo := Lib.hid hmo
          have HG5 := Lib.hid (HOw.out.grown HG4.out hgrow (Nat.le_refl _))
          have HR : Hid (R.1 = its (D ++ [(⟨q, now, 0, ⟨⟨k, r, n, L, d, y⟩, a2, c2'⟩⟩ : Mi)]) ∧ R.2 = 0) := by
            rw [HP.out, its_app]; exact ⟨rfl, rfl⟩
          have HLn : Hid ((D ++ [(⟨q, now, 0, ⟨⟨k, r, n, L, d, y⟩, a2, c2'⟩⟩ : Mi)]).length = D.length + 1) := by show _ = _; simp
          clear hmo hown' hgrow hat HOw HM4 HNw HAp
          generalize (D ++ [(⟨q, now, 0, ⟨⟨k, r, n, L, d, y⟩, a2, c2'⟩⟩ : Mi)]) = D2 at *
          go_wp2
          go_ret2
          exact ⟨a5, c5, D2, by rw [HR.out.2]; rfl, HMo.out, HR.out.1.symm, HG5.out⟩

/- what Push answers -/
set_option maxHeartbeats 8000000 in
set_option maxRecDepth 100000 in
theorem push_any (D : List Mi) (f now : Int) (Q : List Mn) (ad : Option Addr) (cap : Nat) (adQ : Option Addr) (capQ : Nat) (w : World) (hD : ItsAt w ad D) (hc : D.length ≤ cap) (hn : D.length ≤ 9223372036854775807) (hQ : NtsAt w adQ Q) (hnQ : Q.length ≤ 9223372036854775807) :
    Calls Try.prog 9 #[.slice ad D.length cap, .int .i64 f, .int .i64 now, .slice adQ Q.length capQ] w fun e w' => PtR w (Ox.push okN (its D) f now (pks Q)) e w' := by
  have HM : Hid (∀ w', Gr w w' → Calls Try.prog 13 #[.slice ad D.length cap] w' fun e w2 => e = .returned (.int .i64 (mayE D)) ∧ Gr w' w2) := fun w' g => may_any D ad cap w' (hD.gr g) hc hn
  have HW : Hid (∀ w', Calls Try.prog 24 #[.int .i64 f, .int .i64 1, .int .i64 1000000001] w' fun e w2 => e = .returned (.bool (Nt.inB f 1 1000000001)) ∧ w2 = w') := fun w' => oWithin_any f 1 1000000001 w'
  have HT : Hid (∀ w', Calls Try.prog 25 #[.int .i64 now] w' fun e w2 => e = .returned (.bool (Ox.tmB now)) ∧ w2 = w') := fun w' => isTime_any now w'
  have HNo : Hid (¬ (Ox.mayB okN (its D) = true ∧ Ox.tmB now = true ∧ 1 ≤ f ∧ f ≤ 1000000001) → Ox.push okN (its D) f now (pks Q) = ([], 2)) := fun h => by unfold Ox.push; rw [if_neg h]
  unfold PtR
  cases hm : Ox.mayB okN (its D) with
  | false =>
    have HR : Hid (Ox.push okN (its D) f now (pks Q) = ([], 2)) := HNo.out (by rw [hm]; simp)
    rw [mayE_bad hm] at HM
    clear hm hD hQ HNo
    generalize Ox.push okN (its D) f now (pks Q) = R at *
    go_enter Try.func9, Try.ntmps9
    go_wp2_with fail
    refine (HM.out _ ?_).mono ?_
    · exact (by repeat (first | exact Gr.refl _ | refine Gr.alloc ?_ | refine Gr.drew ?_ | refine Gr.trans ?_ (by assumption)))
    rintro e1 w1 ⟨rfl, hg1⟩
    go_wp2
    go_ret2
    exact ⟨none, 0, [], by rw [HR.out]; rfl, Bxs.nil _ _, by rw [HR.out]; rfl, (by repeat (first | exact Gr.refl _ | refine Gr.alloc ?_ | refine Gr.drew ?_ | refine Gr.trans ?_ (by assumption)))⟩
  | true =>
    rw [mayE_ok hm] at HM
    cases hw : Nt.inB f 1 1000000001 with
    | false =>
      have HR : Hid (Ox.push okN (its D) f now (pks Q) = ([], 2)) := HNo.out (fun h => by rw [Nt.inB_iff.2 h.2.2] at hw; cases hw)
      rw [hw] at HW
      clear hm hD hQ HNo hw
      generalize Ox.push okN (its D) f now (pks Q) = R at *
      go_enter Try.func9, Try.ntmps9
      go_wp2_with fail
      refine (HM.out _ ?_).mono ?_
      · exact (by repeat (first | exact Gr.refl _ | refine Gr.alloc ?_ | refine Gr.drew ?_ | refine Gr.trans ?_ (by assumption)))
      rintro e1 w1 ⟨rfl, hg1⟩
      go_wp2_with fail
      refine (HW.out _).mono ?_
      rintro e2 w2 ⟨rfl, hw2⟩; obtain rfl := hw2.symm
      go_wp2
      go_ret2
      exact ⟨none, 0, [], by rw [HR.out]; rfl, Bxs.nil _ _, by rw [HR.out]; rfl, (by repeat (first | exact Gr.refl _ | refine Gr.alloc ?_ | refine Gr.drew ?_ | refine Gr.trans ?_ (by assumption)))⟩
    | true =>
      have hf := Nt.inB_iff.1 hw
      rw [hw] at HW
      cases ht : Ox.tmB now with
      | false =>
        have HR : Hid (Ox.push okN (its D) f now (pks Q) = ([], 2)) := HNo.out (by rw [ht]; simp)
        rw [ht] at HT
        clear hm hD hQ HNo hw hf ht
        generalize Ox.push okN (its D) f now (pks Q) = R at *
        go_enter Try.func9, Try.ntmps9
        go_wp2_with fail
        refine (HM.out _ ?_).mono ?_
        · exact (by repeat (first | exact Gr.refl _ | refine Gr.alloc ?_ | refine Gr.drew ?_ | refine Gr.trans ?_ (by assumption)))
        rintro e1 w1 ⟨rfl, hg1⟩
        go_wp2_with fail
        refine (HW.out _).mono ?_
        rintro e2 w2 ⟨rfl, hw2⟩; obtain rfl := hw2.symm
        go_wp2_with fail
        refine (HT.out _).mono ?_
        rintro e2 w2 ⟨rfl, hw2⟩; obtain rfl := hw2.symm
        go_wp2
        go_ret2
        exact ⟨none, 0, [], by rw [HR.out]; rfl, Bxs.nil _ _, by rw [HR.out]; rfl, (by repeat (first | exact Gr.refl _ | refine Gr.alloc ?_ | refine Gr.drew ?_ | refine Gr.trans ?_ (by assumption)))⟩
      | true =>
        have HR : Hid (Ox.push okN (its D) f now (pks Q) = Ox.pushF okN f now (its D) (pks Q)) := by
          show _ = _
          unfold Ox.push; rw [if_pos ⟨hm, ht, hf⟩]
        rw [ht] at HT
        have hl12 := mayB_len hm
        have HC : Hid (∀ w', Gr w w' → Calls Try.prog 26 #[.slice ad D.length cap] w' fun e w2 => BxR (its D) w' e w2) := fun w' g => copied_any D ad cap w' (hD.gr g) (by omega) (small_its (fun y hy => (may_one hm y hy).2.1))
        have HPt : Hid (∀ m ∈ Q, ∀ (E : List Mi) a c w', Bxs w' w.heap.size (.slice a E.length c) E → Gr w w' → Ox.mayB okN (its E) = true → Calls Try.prog 27 #[.slice a E.length c, .int .i64 f, .int .i64 now, m.v] w' fun e w2 => PtR w (putF f now (its E) (pk m.x)) e w2) := fun m hmq E a c w' hb g hmE => put_any E f now m a c w w' hb g ((hQ.nt m hmq).gr g) hmE
        have HMy : Hid (∀ (l : List (Ox.It Nx)) p, Ox.mayB okN l = true → (putF f now l p).2 = 0 → Ox.mayB okN (putF f now l p).1 = true) := fun l p h h0 => put_may p hf.1 ht h h0
        have HMd := Lib.hid hm
        have HQ := Lib.hid hQ.row
        have HPc : Hid (∀ l (j : Nat) (h : j < Q.length), Ox.pushF okN f now l ((pks Q).drop j) = if (putF f now l (pk Q[j].x)).2 = 0 then Ox.pushF okN f now (putF f now l (pk Q[j].x)).1 ((pks Q).drop (j + 1)) else ([], (putF f now l (pk Q[j].x)).2)) := by
          intro l j h
          rw [List.drop_eq_getElem_cons (by rw [pks_len]; exact h), push_cons]
          have e : (pks Q)[j]'(by rw [pks_len]; exact h) = pk Q[j].x := by simp [pks]
          rw [e]
        clear hm hD hQ HNo hw hf ht hl12
        generalize Ox.push okN (its D) f now (pks Q) = R at *
        go_enter Try.func9, Try.ntmps9
        go_wp2_with fail
        refine (HM.out _ ?_).mono ?_
        · exact (by repeat (first | exact Gr.refl _ | refine Gr.alloc ?_ | refine Gr.drew ?_ | refine Gr.trans ?_ (by assumption)))
        rintro e1 w1 ⟨rfl, hg1⟩
        have HG1 : Hid (Gr w w1) := (by repeat (first | exact Gr.refl _ | refine Gr.alloc ?_ | refine Gr.drew ?_ | refine Gr.trans ?_ (by assumption)))
        clear hg1 HM
        go_wp2_with fail
        refine (HW.out _).mono ?_
        rintro e2 w2 ⟨rfl, hw2⟩; obtain rfl := hw2.symm
        go_wp2_with fail
        refine (HT.out _).mono ?_
        rintro e2 w2 ⟨rfl, hw2⟩; obtain rfl := hw2.symm
        go_wp2_with fail
        refine (HC.out _ HG1.out).mono ?_
        rintro e3 w3 ⟨a3, c3, E3, rfl, hb3, he3, hg3⟩
        have HB3 := Lib.hid (hb3.low (base' := w.heap.size) HG1.out.size)
        have HE3 := Lib.hid he3
        have HG3 := Lib.hid (HG1.out.trans hg3)
        clear hb3 he3 hg3 HC HW HT
        go_wp2
        go_loopw [10, 31] (fun s10 s31 wr => ∃ (k : Nat) (a : Option Addr) (c : Nat) (E : List Mi), s31 = .int .i64 k ∧ s10 = .slice a E.length c ∧ k ≤ Q.length ∧ Bxs wr w.heap.size (.slice a E.length c) E ∧ Ox.mayB okN (its E) = true ∧ R = Ox.pushF okN f now (its E) ((pks Q).drop k) ∧ Gr w wr) (fun _ s31 _ => Q.length - (intOf s31).toNat)
        case atStart => exact ⟨0, a3, c3, E3, rfl, rfl, Nat.zero_le _, HB3.out, by rw [HE3.out]; exact HMd.out, by rw [HR.out, HE3.out, List.drop_zero], HG3.out⟩
        case round =>
          clear HB3 HE3 HG3 HG1
          obtain ⟨k, a, c, E, rfl, rfl, hk, hb, hmE, hR, hg⟩ := hrel
          have HG := Lib.hid hg
          have HB := Lib.hid hb
          have HmE := Lib.hid hmE
          have HRk := Lib.hid hR
          clear hb hmE hR
          by_cases hlt : k < Q.length
          · obtain ⟨b, off, rfl, hbl, d0, d1, d2, d3, d4, d5⟩ := NtsRow.at HQ.out k hlt
            have d0 := hg.keep d0
            have d1 := hg.keep d1
            have d2 := hg.keep d2
            have d3 := hg.keep d3
            have d4 := hg.keep d4
            have d5 := hg.keep d5
            have hbw : b < wr.heap.size := Nat.lt_of_lt_of_le hbl hg.size
            have hki : (k : Int) < (Q.length : Int) := by omega
            have HX := Lib.hid (fun w' (g : Gr wr w') => HPt.out Q[k] (List.getElem_mem hlt) E a c w' (HB.out.gr g) (HG.out.trans g) HmE.out)
            have HY := Lib.hid (HPc.out (its E) k hlt)
            have HMk : Hid ((putF f now (its E) (pk Q[k].x)).2 = 0 → Ox.mayB okN (putF f now (its E) (pk Q[k].x)).1 = true) := HMy.out _ _ HmE.out
            clear hg
            generalize Q[k] = m at *
            generalize putF f now (its E) (pk m.x) = T at *
            obtain ⟨T1, T2⟩ := T
            obtain ⟨⟨k0, r, n, L, dt, y⟩, ax, cx⟩ := m
            unfold PtR at HX
            dsimp only [Mn.v, Mi.v] at *
            by_cases hz : T2 = 0
            · subst hz
              have HMk2 := Lib.hid (HMk.out rfl)
              have HY2 : Hid (R = Ox.pushF okN f now T1 ((pks Q).drop (k + 1))) := by
                show _ = _
                rw [HRk.out, HY.out, if_pos rfl]
              go_wp2_with fail
              refine (HX.out _ ?_).mono ?_
              · exact (by repeat (first | exact Gr.refl _ | refine Gr.alloc ?_ | refine Gr.drew ?_ | refine Gr.trans ?_ (by assumption)))
              rintro e4 w4 ⟨a4, c4, E4, rfl, hb4, he4, hg4⟩
              have HB4 := Lib.hid hb4
              have HE4 := Lib.hid he4
              have HG4 := Lib.hid hg4
              clear hb4 he4 hg4 d0 d1 d2 d3 d4 d5
              go_wp2
              go_roundw
              case rel => exact ⟨k + 1, a4, c4, E4, by go_num, rfl, by omega, HB4.out, by rw [HE4.out]; exact HMk2.out, by rw [HE4.out]; exact HY2.out, HG4.out⟩
              case measure => simp [intOf]; omega
            · have HY2 : Hid (R = ([], T2)) := by
                show _ = _
                rw [HRk.out, HY.out, if_neg hz]
              have hzb : (T2 == 0) = false := by rw [beq_eq_false_iff_ne]; exact hz
              clear HMk
              go_wp2_with fail
              refine (HX.out _ ?_).mono ?_
              · exact (by repeat (first | exact Gr.refl _ | refine Gr.alloc ?_ | refine Gr.drew ?_ | refine Gr.trans ?_ (by assumption)))
              rintro e4 w4 ⟨a4, c4, E4, rfl, hb4, he4, hg4⟩
              have HG4 := Lib.hid hg4
              clear hb4 he4 hg4 d0 d1 d2 d3 d4 d5
              go_wp2
              go_ret2
              exact ⟨none, 0, [], by rw [HY2.out]; rfl, Bxs.nil _ _, by rw [HY2.out]; rfl, HG4.out⟩
          · have hge : ¬ ((k : Int) < (Q.length : Int)) := by omega
            have HL : Hid (R = (its E, 0)) := by
              show _ = _
              rw [HRk.out, List.drop_eq_nil_of_le (by rw [pks_len]; omega)]; rfl
            go_wp2
            go_ret2
            exact ⟨a, c, E, by rw [HL.out]; rfl, HB.out, by rw [HL.out], HG.out⟩
end Go.Proofs.Ytilkfgpcibdikaa
