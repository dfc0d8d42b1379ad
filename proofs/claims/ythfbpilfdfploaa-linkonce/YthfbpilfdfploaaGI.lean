/- Parts of these proofs, laid together. -/
import Derived.Test.YthfbpilfdfploaaGH
import Derived.Test.YthfbpilfdfploaaGC
import Derived.Test.YthfbpilfdfploaaGF
import Derived.Test.YthfbpilfdfploaaGB
import Derived.ProofKit
import Derived.ChangeSame
import Derived.LaidMore
import Derived.OpenShut
import Derived.ChangeSlices
import Derived.ShutString
import Derived.SizedLaws
import Derived.Deep.Strs
namespace Go.Proofs.Ythfbpilfdfploaa
open Go.RowKit

variable {Z : Nat → Prop}
/- one note of Push -/
def putF (f now : Int) (l : List (Ox.It Nx)) (p : Nx) : List (Ox.It Nx) × Int :=
  if okN p = true then (if Ox.among l p = true then (l, 0) else if l.length = 12 then ([], 190) else if 1000000000 < Ox.next l f then ([], 180) else (l ++ [⟨Ox.next l f, now, 0, p⟩], 0)) else ([], 130)
theorem push_cons (f now : Int) (l : List (Ox.It Nx)) (p : Nx) (r : List Nx) : Ox.pushF okN f now l (p :: r) = if (putF f now l p).2 = 0 then Ox.pushF okN f now (putF f now l p).1 r else ([], (putF f now l p).2) := by
  unfold putF
  rw [Ox.pushF]
  split
  · split
    · rfl
    · split
      · rfl
      · split <;> rfl
  · rfl
theorem put_may {f now : Int} {l : List (Ox.It Nx)} (p : Nx) (hf : 1 ≤ f) (ht : Ox.tmB now = true) (h : Ox.mayB okN l = true) (h0 : (putF f now l p).2 = 0) : Ox.mayB okN (putF f now l p).1 = true := by
  have hm := (Ox.mayB_iff _ _).1 h
  unfold putF at h0 ⊢
  split at h0
  · rename_i hn
    rw [if_pos hn]
    split at h0
    · rename_i ha
      rw [if_pos ha]; exact h
    · rename_i ha
      rw [if_neg ha]
      split at h0
      · cases h0
      · rename_i hl
        rw [if_neg hl]
        split at h0
        · cases h0
        · rename_i hx
          rw [if_neg hx]
          exact (Ox.mayB_iff _ _).2 (Ox.may_snoc hm hn (by simpa using ha) hl (by omega) hf ht)
  · cases h0
/- what put answers -/
def PtR (Z : Nat → Prop) (w0 : World) (r : List (Ox.It Nx) × Int) (e : Ending) (w' : World) : Prop :=
  ∃ a c E, e = .returned (.tuple #[.slice a E.length c, .int .i64 r.2]) ∧ Bxs Z w' w0.heap.size (.slice a E.length c) E ∧ its E = r.1 ∧ Gr w0 w'
set_option maxHeartbeats 8000000 in
set_option maxRecDepth 100000 in
theorem put_any (D : List Mi) (f now : Int) (m : Mn) (a : Option Addr) (c : Nat) (w0 w : World) (hZ : Frs Z w0) (hb : Bxs Z w w0.heap.size (.slice a D.length c) D) (hg : Gr w0 w) (hm : MnAt Z w m) (hmay : Ox.mayB okN (its D) = true) :
    Calls Try.prog 63 #[.slice a D.length c, .int .i64 f, .int .i64 now, m.v] w fun e w' => PtR Z w0 (putF f now (its D) (pk m.x)) e w' := by
  obtain ⟨i0, hi0, hz0, hz1, hz2⟩ := info_parts infoItem
  have hl12 := mayB_len hmay
  obtain ⟨ad2, cap2, e2, _, _, hit, _⟩ := hb.at
  cases e2
  have HN : Hid (∀ w', Gr w w' → Calls Try.prog 58 #[m.v] w' fun e w2 => e = .returned (.int .i64 (Nt.ckE m.x)) ∧ Gr w' w2) := fun w' g => nCheck_any m.x.k m.x.r m.x.n m.x.L m.x.d m.x.y m.ad m.cap w' (hm.hp.gr g) hm.hl hm.hd
  have HH : Hid (∀ w', Gr w w' → Calls Try.prog 43 #[.slice a D.length c, m.v] w' fun e w2 => e = .returned (.bool (Ox.among (its D) (pk m.x))) ∧ Gr w' w2) := fun w' g => has_any D m a c w' (hit.gr g) (by omega) (hm.gr g)
  have HX : Hid (∀ w', Gr w w' → Calls Try.prog 86 #[.slice a D.length c, .int .i64 f] w' fun e w2 => e = .returned (.int .i64 (Ox.next (its D) f)) ∧ Gr w' w2) := fun w' g => nextNumber_any D f a c w' (hit.gr g).row (by omega) (fun x hx => (may_one hmay x.it (List.mem_map.2 ⟨x, hx, rfl⟩)).1)
  have HF : Hid (okN (pk m.x) = true → ∀ q w', Gr w w' → Calls Try.prog 73 #[.int .i64 q, .int .i64 now, m.v] w' fun e w2 => ∃ a c, e = .returned (Mi.v ⟨q, now, 0, ⟨m.x, a, c⟩⟩) ∧ MnAt Z w2 ⟨m.x, a, c⟩ ∧ (∀ p, a = some p → w'.heap.size ≤ p.block) ∧ Gr w' w2) := fun hok q w' g => by
    obtain ⟨h1, h2⟩ := nt_small (x := m.x) (by rw [← okN_pk]; exact hok)
    exact fresh_any q now m w' (hZ.gr (hg.trans g)) (hm.gr g) (by omega) (by omega)
  have hck := ck_okN m.x
  have hok0 : okN (pk m.x) = true → Nt.ckE m.x = 0 := fun h => by rw [h] at hck; simpa using hck
  have hok1 : okN (pk m.x) = false → Nt.ckE m.x = 130 := fun h => by
    rw [okN_pk] at h
    unfold Nt.ckE; rw [h]; rfl
  have HP : Hid (putF f now (its D) (pk m.x) = if okN (pk m.x) = true then (if Ox.among (its D) (pk m.x) = true then (its D, 0) else if D.length = 12 then ([], 190) else if 1000000000 < Ox.next (its D) f then ([], 180) else (its D ++ [⟨Ox.next (its D) f, now, 0, pk m.x⟩], 0)) else ([], 130)) := by
    show _ = _
    unfold putF
    rw [its_len]
  have HB := Lib.hid hb
  have HG := Lib.hid hg
  unfold PtR
  generalize putF f now (its D) (pk m.x) = R at *
  clear hb hg hm hmay hit hck hZ
  have hsz : w0.heap.size ≤ w.heap.size := HG.out.size
  cases ho : okN (pk m.x) with
  | false =>
    rw [hok1 ho] at HN
    rw [ho] at HP
    have HR : Hid (R = ([], 130)) := HP.out
    clear HP HF HX HH hok0 hok1 ho
    obtain ⟨⟨k, r, n, L, d, y⟩, ad, cap⟩ := m
    dsimp only [Mn.v, Mi.v] at *
    generalize L.length = ll at *
    go_enter Try.func63, Try.ntmps63
    go_wp2_with fail
    refine (HN.out _ ?_).mono ?_
    · exact (by repeat(first|exact Gr.r _|refine Gr.a ?_|refine Gr.d ?_|refine Gr.t ?_ (by assumption)))
    rintro e1 w1 ⟨rfl, hg1⟩
    go_wp2
    go_ret2
    exact ⟨none, 0, [], by rw [HR.out]; rfl, Bxs.nil _ _, by rw [HR.out]; rfl, HG.out.trans (by repeat(first|exact Gr.r _|refine Gr.a ?_|refine Gr.d ?_|refine Gr.t ?_ (by assumption)))⟩
  | true =>
    rw [hok0 ho] at HN
    rw [ho, if_pos rfl] at HP
    replace HF := Lib.hid (HF.out ho)
    clear hok0 hok1 ho
    cases ha : Ox.among (its D) (pk m.x) with
    | true =>
      rw [ha] at HP HH
      have HR : Hid (R = (its D, 0)) := HP.out
      clear HP HF HX ha
      obtain ⟨⟨k, r, n, L, d, y⟩, ad, cap⟩ := m
      dsimp only [Mn.v, Mi.v] at *
      generalize L.length = ll at *
      go_enter Try.func63, Try.ntmps63
      go_wp2_with fail
      refine (HN.out _ ?_).mono ?_
      · exact (by repeat(first|exact Gr.r _|refine Gr.a ?_|refine Gr.d ?_|refine Gr.t ?_ (by assumption)))
      rintro e1 w1 ⟨rfl, hg1⟩
      have HG1 : Hid (Gr w w1) := (by repeat(first|exact Gr.r _|refine Gr.a ?_|refine Gr.d ?_|refine Gr.t ?_ (by assumption)))
      have B1 := (Cs.new w [.int .i64 k, .int .i64 r, .int .i64 n, .slice ad ll cap, .string d, .int .i64 y] 26 _ rfl).gr hg1
      have c0 := B1.at_ 0 _ rfl
      have c1 := B1.at_ 1 _ rfl
      have c2 := B1.at_ 2 _ rfl
      have c3 := B1.at_ 3 _ rfl
      have c4 := B1.at_ 4 _ rfl
      have c5 := B1.at_ 5 _ rfl
      have cf0 := B1.fz 0 (by simp)
      have cf1 := B1.fz 1 (by simp)
      have cf2 := B1.fz 2 (by simp)
      have cf3 := B1.fz 3 (by simp)
      have cf4 := B1.fz 4 (by simp)
      have cf5 := B1.fz 5 (by simp)
      have clt := B1.lt
      clear hg1 B1 HN
      go_wp2_with fail
      refine (HH.out _ HG1.out).mono ?_
      rintro e2 w2 ⟨rfl, hg2⟩
      have HG2 := Lib.hid (HG1.out.trans hg2)
      clear hg2
      go_wp2
      go_ret2
      exact ⟨a, c, D, by rw [HR.out]; rfl, HB.out.gr HG2.out, by rw [HR.out], HG.out.trans HG2.out⟩
    | false =>
      rw [ha] at HP HH
      rw [if_neg (by simp)] at HP
      by_cases h12 : D.length = 12
      · rw [if_pos h12] at HP
        have HR : Hid (R = ([], 190)) := HP.out
        have h12' : (12 : Int) ≤ (D.length : Int) := by omega
        clear HP HF HX ha
        generalize D.length = ld at *
        obtain ⟨⟨k, r, n, L, d, y⟩, ad, cap⟩ := m
        dsimp only [Mn.v, Mi.v] at *
        generalize L.length = ll at *
        clear h12
        go_enter Try.func63, Try.ntmps63
        go_wp2_with fail
        refine (HN.out _ ?_).mono ?_
        · exact (by repeat(first|exact Gr.r _|refine Gr.a ?_|refine Gr.d ?_|refine Gr.t ?_ (by assumption)))
        rintro e1 w1 ⟨rfl, hg1⟩
        have HG1 : Hid (Gr w w1) := (by repeat(first|exact Gr.r _|refine Gr.a ?_|refine Gr.d ?_|refine Gr.t ?_ (by assumption)))
        have B1 := (Cs.new w [.int .i64 k, .int .i64 r, .int .i64 n, .slice ad ll cap, .string d, .int .i64 y] 26 _ rfl).gr hg1
        have c0 := B1.at_ 0 _ rfl
        have c1 := B1.at_ 1 _ rfl
        have c2 := B1.at_ 2 _ rfl
        have c3 := B1.at_ 3 _ rfl
        have c4 := B1.at_ 4 _ rfl
        have c5 := B1.at_ 5 _ rfl
        have cf0 := B1.fz 0 (by simp)
        have cf1 := B1.fz 1 (by simp)
        have cf2 := B1.fz 2 (by simp)
        have cf3 := B1.fz 3 (by simp)
        have cf4 := B1.fz 4 (by simp)
        have cf5 := B1.fz 5 (by simp)
        have clt := B1.lt
        clear hg1 B1 HN
        go_wp2_with fail
        refine (HH.out _ HG1.out).mono ?_
        rintro e2 w2 ⟨rfl, hg2⟩
        have HG2 := Lib.hid (HG1.out.trans hg2)
        clear hg2
        go_wp2
        go_ret2
        exact ⟨none, 0, [], by rw [HR.out]; rfl, Bxs.nil _ _, by rw [HR.out]; rfl, HG.out.trans HG2.out⟩
      · rw [if_neg h12] at HP
        have h12' : ¬ (12 : Int) ≤ (D.length : Int) := by omega
        have hD11 : D.length ≤ 11 := by omega
        have HNi : Hid (its (D ++ [(⟨Ox.next (its D) f, now, 0, m⟩ : Mi)]) = its D ++ [⟨Ox.next (its D) f, now, 0, pk m.x⟩]) := by
          show _ = _
          rw [its_app]; rfl
        generalize Ox.next (its D) f = q at *
        by_cases hq : 1000000000 < q
        · rw [if_pos hq] at HP
          have HR : Hid (R = ([], 180)) := HP.out
          clear HP HF ha HNi
          obtain ⟨⟨k, r, n, L, d, y⟩, ad, cap⟩ := m
          dsimp only [Mn.v, Mi.v] at *
          generalize L.length = ll at *
          go_enter Try.func63, Try.ntmps63
          go_wp2_with fail
          refine (HN.out _ ?_).mono ?_
          · exact (by repeat(first|exact Gr.r _|refine Gr.a ?_|refine Gr.d ?_|refine Gr.t ?_ (by assumption)))
          rintro e1 w1 ⟨rfl, hg1⟩
          have HG1 : Hid (Gr w w1) := (by repeat(first|exact Gr.r _|refine Gr.a ?_|refine Gr.d ?_|refine Gr.t ?_ (by assumption)))
          have B1 := (Cs.new w [.int .i64 k, .int .i64 r, .int .i64 n, .slice ad ll cap, .string d, .int .i64 y] 26 _ rfl).gr hg1
          have c0 := B1.at_ 0 _ rfl
          have c1 := B1.at_ 1 _ rfl
          have c2 := B1.at_ 2 _ rfl
          have c3 := B1.at_ 3 _ rfl
          have c4 := B1.at_ 4 _ rfl
          have c5 := B1.at_ 5 _ rfl
          have cf0 := B1.fz 0 (by simp)
          have cf1 := B1.fz 1 (by simp)
          have cf2 := B1.fz 2 (by simp)
          have cf3 := B1.fz 3 (by simp)
          have cf4 := B1.fz 4 (by simp)
          have cf5 := B1.fz 5 (by simp)
          have clt := B1.lt
          clear hg1 B1 HN
          go_wp2_with fail
          refine (HH.out _ HG1.out).mono ?_
          rintro e2 w2 ⟨rfl, hg2⟩
          have HG2 := Lib.hid (HG1.out.trans hg2)
          clear hg2
          go_wp2_with fail
          refine (HX.out _ HG2.out).mono ?_
          rintro e3 w3 ⟨rfl, hg3⟩
          have HG3 := Lib.hid (HG2.out.trans hg3)
          clear hg3
          go_wp2
          go_ret2
          exact ⟨none, 0, [], by rw [HR.out]; rfl, Bxs.nil _ _, by rw [HR.out]; rfl, HG.out.trans HG3.out⟩
        · rw [if_neg hq] at HP
          replace HF := Lib.hid (HF.out q)
          clear ha HNi
          obtain ⟨⟨k, r, n, L, d, y⟩, ad, cap⟩ := m
          dsimp only [Mn.v, Mi.v] at *
          go_enter Try.func63, Try.ntmps63
          go_wp2_with fail
          refine (HN.out _ ?_).mono ?_
          · exact (by repeat(first|exact Gr.r _|refine Gr.a ?_|refine Gr.d ?_|refine Gr.t ?_ (by assumption)))
          rintro e1 w1 ⟨rfl, hg1⟩
          have HG1 : Hid (Gr w w1) := (by repeat(first|exact Gr.r _|refine Gr.a ?_|refine Gr.d ?_|refine Gr.t ?_ (by assumption)))
          have B1 := (Cs.new w [.int .i64 k, .int .i64 r, .int .i64 n, .slice ad L.length cap, .string d, .int .i64 y] 26 _ rfl).gr hg1
          have c0 := B1.at_ 0 _ rfl
          have c1 := B1.at_ 1 _ rfl
          have c2 := B1.at_ 2 _ rfl
          have c3 := B1.at_ 3 _ rfl
          have c4 := B1.at_ 4 _ rfl
          have c5 := B1.at_ 5 _ rfl
          have cf0 := B1.fz 0 (by simp)
          have cf1 := B1.fz 1 (by simp)
          have cf2 := B1.fz 2 (by simp)
          have cf3 := B1.fz 3 (by simp)
          have cf4 := B1.fz 4 (by simp)
          have cf5 := B1.fz 5 (by simp)
          have clt := B1.lt
          clear hg1 HN
          go_wp2_with fail
          refine (HH.out _ HG1.out).mono ?_
          rintro e2 w2 ⟨rfl, hg2⟩
          have HG2 := Lib.hid (HG1.out.trans hg2)
          have B2 := B1.gr hg2
          clear hg2 HH
          go_wp2_with fail
          refine (HX.out _ HG2.out).mono ?_
          rintro e3 w3 ⟨rfl, hg3⟩
          have HG3 := Lib.hid (HG2.out.trans hg3)
          have B3 := B2.gr hg3
          clear c0 c1 c2 c3 c4 c5 cf0 cf1 cf2 cf3 cf4 cf5 clt B1 B2 hg3 HX
          have c0 := B3.at_ 0 _ rfl
          have c1 := B3.at_ 1 _ rfl
          have c2 := B3.at_ 2 _ rfl
          have c3 := B3.at_ 3 _ rfl
          have c4 := B3.at_ 4 _ rfl
          have c5 := B3.at_ 5 _ rfl
          have cf0 := B3.fz 0 (by simp)
          have cf1 := B3.fz 1 (by simp)
          have cf2 := B3.fz 2 (by simp)
          have cf3 := B3.fz 3 (by simp)
          have cf4 := B3.fz 4 (by simp)
          have cf5 := B3.fz 5 (by simp)
          have clt := B3.lt
          go_wp2_with fail
          refine (HF.out _ HG3.out).mono ?_
          rintro e4 w4 ⟨a2, c2', rfl, hm2, hf2, hg4⟩
          have g4 : Gr w w4 := HG3.out.trans hg4
          have HOw := Lib.hid ((HB.out.gr g4).gr ((Gr.refl w4).alloc (o := .cells #[.int .i64 q, .int .i64 now, .int .i64 0, .int .i64 k, .int .i64 r, .int .i64 n, .slice a2 L.length c2', .string d, .int .i64 y] 79)))
          have HM4 := Lib.hid (hm2.gr ((Gr.refl w4).alloc (o := .cells #[.int .i64 q, .int .i64 now, .int .i64 0, .int .i64 k, .int .i64 r, .int .i64 n, .slice a2 L.length c2', .string d, .int .i64 y] 79)))
          have HG4 : Hid (Gr w0 (w4.alloc (.cells #[.int .i64 q, .int .i64 now, .int .i64 0, .int .i64 k, .int .i64 r, .int .i64 n, .slice a2 L.length c2', .string d, .int .i64 y] 79))) := (HG.out.trans g4).alloc
          have hnw := i_new w4 ⟨q, now, 0, ⟨⟨k, r, n, L, d, y⟩, a2, c2'⟩⟩ 79
          rw [show (iC ⟨q, now, 0, ⟨⟨k, r, n, L, d, y⟩, a2, c2'⟩⟩).toArray = #[.int .i64 q, .int .i64 now, .int .i64 0, .int .i64 k, .int .i64 r, .int .i64 n, .slice a2 L.length c2', .string d, .int .i64 y] from rfl] at hnw
          have HNw := Lib.hid hnw
          have HAp : Hid (L ≠ [] → ∀ p, a2 = some p → (Value.slice a D.length c).ownBlock ≠ some p.block) := fun _ => ap_new HB.out (fun p e => by have := hf2 p e; have := HG3.out.size; omega)
          have hlen4 : w0.heap.size ≤ w4.heap.size := by have := g4.size; omega
          clear hm2 hf2 hg4 g4 hnw HF c0 c1 c2 c3 c4 c5 cf0 cf1 cf2 cf3 cf4 cf5 clt B3
          have hm1 : D.length + 1 ≤ maxLen := by unfold maxLen; omega
          go_wp2_with (first
            | (at_builtin; refine wpList_append_own_at _ rfl _ _ 32 rfl w0.heap.size 79 i0 (.agg #[.int .i64 0, .int .i64 0, .int .i64 0, .int .i64 0, .int .i64 0, .int .i64 0, .slice none 0 0, .string ⟨#[]⟩, .int .i64 0]) 9 96 Try.underlying32 hi0 hz0 hz1 hz2 rfl (by decide) _ _ _ rfl HOw.out.own ⟨w4.heap.size, 0, none⟩ 1 1 ([(⟨q, now, 0, ⟨⟨k, r, n, L, d, y⟩, a2, c2'⟩⟩ : Mi)].flatMap iC) rfl rfl HNw.out (i_one _) hm1 (by omega) (by simp; omega) ?_)
            | fail)
          intro v' w5 hown' hgrow _ hat
          have hmo := Bxs.more (x := ⟨q, now, 0, ⟨⟨k, r, n, L, d, y⟩, a2, c2'⟩⟩) HOw.out HM4.out HAp.out hown' hgrow (by simpa using hat)
          obtain ⟨a5, c5, rfl⟩ := own_slice3 hmo
          have HMo := Lib.hid hmo
          have HG5 := Lib.hid (HOw.out.grown HG4.out hgrow (Nat.le_refl _))
          have HR : Hid (R.1 = its (D ++ [(⟨q, now, 0, ⟨⟨k, r, n, L, d, y⟩, a2, c2'⟩⟩ : Mi)]) ∧ R.2 = 0) := by
            rw [HP.out, its_app]; exact ⟨rfl, rfl⟩
          have HLn : Hid ((D ++ [(⟨q, now, 0, ⟨⟨k, r, n, L, d, y⟩, a2, c2'⟩⟩ : Mi)]).length = D.length + 1) := by show _ = _; simp
          clear hmo hown' hgrow hat HOw HM4 HNw HAp
          generalize (D ++ [(⟨q, now, 0, ⟨⟨k, r, n, L, d, y⟩, a2, c2'⟩⟩ : Mi)]) = D2 at *
          go_wp2
          go_ret2
          exact ⟨a5, c5, D2, by rw [HR.out.2]; rfl, HMo.out, HR.out.1.symm, HG5.out⟩

/- what Push answers -/
set_option maxHeartbeats 8000000 in
set_option maxRecDepth 100000 in
theorem push_any (D : List Mi) (f now : Int) (Q : List Mn) (ad : Option Addr) (cap : Nat) (adQ : Option Addr) (capQ : Nat) (w : World) (hZ : Frs Z w) (hD : ItsAt Z w ad D) (hc : D.length ≤ cap) (hn : D.length ≤ 9223372036854775807) (hQ : NtsAt Z w adQ Q) (hnQ : Q.length ≤ 9223372036854775807) :
    Calls Try.prog 40 #[.slice ad D.length cap, .int .i64 f, .int .i64 now, .slice adQ Q.length capQ] w fun e w' => PtR Z w (Ox.push okN (its D) f now (pks Q)) e w' := by
  have HZ := Lib.hid hZ
  clear hZ
  have HM : Hid (∀ w', Gr w w' → Calls Try.prog 42 #[.slice ad D.length cap] w' fun e w2 => e = .returned (.int .i64 (oMayE D)) ∧ Gr w' w2) := fun w' g => oMay_any D ad cap w' (hD.gr g) hc hn
  have HW : Hid (∀ w', Calls Try.prog 61 #[.int .i64 f, .int .i64 1, .int .i64 1000000001] w' fun e w2 => e = .returned (.bool (Nt.inB f 1 1000000001)) ∧ w2 = w') := fun w' => oWithin_any f 1 1000000001 w'
  have HT : Hid (∀ w', Calls Try.prog 62 #[.int .i64 now] w' fun e w2 => e = .returned (.bool (Ox.tmB now)) ∧ w2 = w') := fun w' => isTime_any now w'
  have HNo : Hid (¬ (Ox.mayB okN (its D) = true ∧ Ox.tmB now = true ∧ 1 ≤ f ∧ f ≤ 1000000001) → Ox.push okN (its D) f now (pks Q) = ([], 2)) := fun h => by unfold Ox.push; rw [if_neg h]
  unfold PtR
  cases hm : Ox.mayB okN (its D) with
  | false =>
    have HR : Hid (Ox.push okN (its D) f now (pks Q) = ([], 2)) := HNo.out (by rw [hm]; simp)
    rw [oMayE_bad hm] at HM
    clear hm hD hQ HNo
    generalize Ox.push okN (its D) f now (pks Q) = R at *
    go_enter Try.func40, Try.ntmps40
    go_wp2_with fail
    refine (HM.out _ ?_).mono ?_
    · exact (by repeat(first|exact Gr.r _|refine Gr.a ?_|refine Gr.d ?_|refine Gr.t ?_ (by assumption)))
    rintro e1 w1 ⟨rfl, hg1⟩
    go_wp2
    go_ret2
    exact ⟨none, 0, [], by rw [HR.out]; rfl, Bxs.nil _ _, by rw [HR.out]; rfl, (by repeat(first|exact Gr.r _|refine Gr.a ?_|refine Gr.d ?_|refine Gr.t ?_ (by assumption)))⟩
  | true =>
    rw [oMayE_ok hm] at HM
    cases hw : Nt.inB f 1 1000000001 with
    | false =>
      have HR : Hid (Ox.push okN (its D) f now (pks Q) = ([], 2)) := HNo.out (fun h => by rw [Nt.inB_iff.2 h.2.2] at hw; cases hw)
      rw [hw] at HW
      clear hm hD hQ HNo hw
      generalize Ox.push okN (its D) f now (pks Q) = R at *
      go_enter Try.func40, Try.ntmps40
      go_wp2_with fail
      refine (HM.out _ ?_).mono ?_
      · exact (by repeat(first|exact Gr.r _|refine Gr.a ?_|refine Gr.d ?_|refine Gr.t ?_ (by assumption)))
      rintro e1 w1 ⟨rfl, hg1⟩
      go_wp2_with fail
      refine (HW.out _).mono ?_
      rintro e2 w2 ⟨rfl, hw2⟩; obtain rfl := hw2.symm
      go_wp2
      go_ret2
      exact ⟨none, 0, [], by rw [HR.out]; rfl, Bxs.nil _ _, by rw [HR.out]; rfl, (by repeat(first|exact Gr.r _|refine Gr.a ?_|refine Gr.d ?_|refine Gr.t ?_ (by assumption)))⟩
    | true =>
      have hf := Nt.inB_iff.1 hw
      rw [hw] at HW
      cases ht : Ox.tmB now with
      | false =>
        have HR : Hid (Ox.push okN (its D) f now (pks Q) = ([], 2)) := HNo.out (by rw [ht]; simp)
        rw [ht] at HT
        clear hm hD hQ HNo hw hf ht
        generalize Ox.push okN (its D) f now (pks Q) = R at *
        go_enter Try.func40, Try.ntmps40
        go_wp2_with fail
        refine (HM.out _ ?_).mono ?_
        · exact (by repeat(first|exact Gr.r _|refine Gr.a ?_|refine Gr.d ?_|refine Gr.t ?_ (by assumption)))
        rintro e1 w1 ⟨rfl, hg1⟩
        go_wp2_with fail
        refine (HW.out _).mono ?_
        rintro e2 w2 ⟨rfl, hw2⟩; obtain rfl := hw2.symm
        go_wp2_with fail
        refine (HT.out _).mono ?_
        rintro e2 w2 ⟨rfl, hw2⟩; obtain rfl := hw2.symm
        go_wp2
        go_ret2
        exact ⟨none, 0, [], by rw [HR.out]; rfl, Bxs.nil _ _, by rw [HR.out]; rfl, (by repeat(first|exact Gr.r _|refine Gr.a ?_|refine Gr.d ?_|refine Gr.t ?_ (by assumption)))⟩
      | true =>
        have HR : Hid (Ox.push okN (its D) f now (pks Q) = Ox.pushF okN f now (its D) (pks Q)) := by
          show _ = _
          unfold Ox.push; rw [if_pos ⟨hm, ht, hf⟩]
        rw [ht] at HT
        have hl12 := mayB_len hm
        have HC : Hid (∀ w', Gr w w' → Calls Try.prog 49 #[.slice ad D.length cap] w' fun e w2 => BxR Z (its D) w' e w2) := fun w' g => copied_any D ad cap w' (HZ.out.gr g) (hD.gr g) (by omega) (small_its (fun y hy => (may_one hm y hy).2.1))
        have HPt : Hid (∀ m ∈ Q, ∀ (E : List Mi) a c w', Bxs Z w' w.heap.size (.slice a E.length c) E → Gr w w' → Ox.mayB okN (its E) = true → Calls Try.prog 63 #[.slice a E.length c, .int .i64 f, .int .i64 now, m.v] w' fun e w2 => PtR Z w (putF f now (its E) (pk m.x)) e w2) := fun m hmq E a c w' hb g hmE => put_any E f now m a c w w' HZ.out hb g ((hQ.nt m hmq).gr g) hmE
        have HMy : Hid (∀ (l : List (Ox.It Nx)) p, Ox.mayB okN l = true → (putF f now l p).2 = 0 → Ox.mayB okN (putF f now l p).1 = true) := fun l p h h0 => put_may p hf.1 ht h h0
        have HMd := Lib.hid hm
        have HQ := Lib.hid hQ.row
        have HPc : Hid (∀ l (j : Nat) (h : j < Q.length), Ox.pushF okN f now l ((pks Q).drop j) = if (putF f now l (pk Q[j].x)).2 = 0 then Ox.pushF okN f now (putF f now l (pk Q[j].x)).1 ((pks Q).drop (j + 1)) else ([], (putF f now l (pk Q[j].x)).2)) := by
          intro l j h
          rw [List.drop_eq_getElem_cons (by rw [pks_len]; exact h), push_cons]
          have e : (pks Q)[j]'(by rw [pks_len]; exact h) = pk Q[j].x := by simp [pks]
          rw [e]
        clear hm hD hQ HNo hw hf ht hl12
        generalize Ox.push okN (its D) f now (pks Q) = R at *
        go_enter Try.func40, Try.ntmps40
        go_wp2_with fail
        refine (HM.out _ ?_).mono ?_
        · exact (by repeat(first|exact Gr.r _|refine Gr.a ?_|refine Gr.d ?_|refine Gr.t ?_ (by assumption)))
        rintro e1 w1 ⟨rfl, hg1⟩
        have HG1 : Hid (Gr w w1) := (by repeat(first|exact Gr.r _|refine Gr.a ?_|refine Gr.d ?_|refine Gr.t ?_ (by assumption)))
        clear hg1 HM
        go_wp2_with fail
        refine (HW.out _).mono ?_
        rintro e2 w2 ⟨rfl, hw2⟩; obtain rfl := hw2.symm
        go_wp2_with fail
        refine (HT.out _).mono ?_
        rintro e2 w2 ⟨rfl, hw2⟩; obtain rfl := hw2.symm
        go_wp2_with fail
        refine (HC.out _ HG1.out).mono ?_
        rintro e3 w3 ⟨a3, c3, E3, rfl, hb3, he3, hg3⟩
        have HB3 := Lib.hid (hb3.low (base' := w.heap.size) HG1.out.size)
        have HE3 := Lib.hid he3
        have HG3 := Lib.hid (HG1.out.trans hg3)
        clear hb3 he3 hg3 HC HW HT
        go_wp2
        go_loopw [10, 31] (fun s10 s31 wr => ∃ (k : Nat) (a : Option Addr) (c : Nat) (E : List Mi), s31 = .int .i64 k ∧ s10 = .slice a E.length c ∧ k ≤ Q.length ∧ Bxs Z wr w.heap.size (.slice a E.length c) E ∧ Ox.mayB okN (its E) = true ∧ R = Ox.pushF okN f now (its E) ((pks Q).drop k) ∧ Gr w wr) (fun _ s31 _ => Q.length - (intOf s31).toNat)
        case atStart => exact ⟨0, a3, c3, E3, rfl, rfl, Nat.zero_le _, HB3.out, by rw [HE3.out]; exact HMd.out, by rw [HR.out, HE3.out, List.drop_zero], HG3.out⟩
        case round =>
          clear HB3 HE3 HG3 HG1
          obtain ⟨k, a, c, E, rfl, rfl, hk, hb, hmE, hR, hg⟩ := hrel
          have HG := Lib.hid hg
          have HB := Lib.hid hb
          have HmE := Lib.hid hmE
          have HRk := Lib.hid hR
          clear hb hmE hR
          by_cases hlt : k < Q.length
          · obtain ⟨b, off, rfl, hbl, d0, d1, d2, d3, d4, d5⟩ := NtsRow.at HQ.out k hlt
            have d0 := hg.keep d0
            have d1 := hg.keep d1
            have d2 := hg.keep d2
            have d3 := hg.keep d3
            have d4 := hg.keep d4
            have d5 := hg.keep d5
            have hbw : b < wr.heap.size := Nat.lt_of_lt_of_le hbl hg.size
            have hki : (k : Int) < (Q.length : Int) := by omega
            have HX := Lib.hid (fun w' (g : Gr wr w') => HPt.out Q[k] (List.getElem_mem hlt) E a c w' (HB.out.gr g) (HG.out.trans g) HmE.out)
            have HY := Lib.hid (HPc.out (its E) k hlt)
            have HMk : Hid ((putF f now (its E) (pk Q[k].x)).2 = 0 → Ox.mayB okN (putF f now (its E) (pk Q[k].x)).1 = true) := HMy.out _ _ HmE.out
            clear hg
            generalize Q[k] = m at *
            generalize putF f now (its E) (pk m.x) = T at *
            obtain ⟨T1, T2⟩ := T
            obtain ⟨⟨k0, r, n, L, dt, y⟩, ax, cx⟩ := m
            unfold PtR at HX
            dsimp only [Mn.v, Mi.v] at *
            by_cases hz : T2 = 0
            · subst hz
              have HMk2 := Lib.hid (HMk.out rfl)
              have HY2 : Hid (R = Ox.pushF okN f now T1 ((pks Q).drop (k + 1))) := by
                show _ = _
                rw [HRk.out, HY.out, if_pos rfl]
              go_wp2_with fail
              refine (HX.out _ ?_).mono ?_
              · exact (by repeat(first|exact Gr.r _|refine Gr.a ?_|refine Gr.d ?_|refine Gr.t ?_ (by assumption)))
              rintro e4 w4 ⟨a4, c4, E4, rfl, hb4, he4, hg4⟩
              have HB4 := Lib.hid hb4
              have HE4 := Lib.hid he4
              have HG4 := Lib.hid hg4
              clear hb4 he4 hg4 d0 d1 d2 d3 d4 d5
              go_wp2
              go_roundw
              case rel => exact ⟨k + 1, a4, c4, E4, by go_num, rfl, by omega, HB4.out, by rw [HE4.out]; exact HMk2.out, by rw [HE4.out]; exact HY2.out, HG4.out⟩
              case measure => simp [intOf]; omega
            · have HY2 : Hid (R = ([], T2)) := by
                show _ = _
                rw [HRk.out, HY.out, if_neg hz]
              have hzb : (T2 == 0) = false := by rw [beq_eq_false_iff_ne]; exact hz
              clear HMk
              go_wp2_with fail
              refine (HX.out _ ?_).mono ?_
              · exact (by repeat(first|exact Gr.r _|refine Gr.a ?_|refine Gr.d ?_|refine Gr.t ?_ (by assumption)))
              rintro e4 w4 ⟨a4, c4, E4, rfl, hb4, he4, hg4⟩
              have HG4 := Lib.hid hg4
              clear hb4 he4 hg4 d0 d1 d2 d3 d4 d5
              go_wp2
              go_ret2
              exact ⟨none, 0, [], by rw [HY2.out]; rfl, Bxs.nil _ _, by rw [HY2.out]; rfl, HG4.out⟩
          · have hge : ¬ ((k : Int) < (Q.length : Int)) := by omega
            have HL : Hid (R = (its E, 0)) := by
              show _ = _
              rw [HRk.out, List.drop_eq_nil_of_le (by rw [pks_len]; omega)]; rfl
            go_wp2
            go_ret2
            exact ⟨a, c, E, by rw [HL.out]; rfl, HB.out, by rw [HL.out], HG.out⟩
end Go.Proofs.Ythfbpilfdfploaa
namespace Go.Proofs.Ythfbpilfdfploaa
open Go.RowKit
open Lk (St)

variable {Z : Nat → Prop}
/- the program's link in block g -/
structure PkC (Z : Nat → Prop) (w : World) (g : Nat) (l : St Nx) (a : Option Addr) (c : Nat) (E : List Mi) (a2 : Option Addr) (c2 : Nat) : Prop where
  cs : Cs w g [.int .i64 l.me, .int .i64 l.wi, .int .i64 l.ep, .slice a E.length c, .int .i64 l.nx, .int .i64 l.kn, .int .i64 l.wn.low, .slice a2 l.wn.seen.length c2, .bool l.ow]
  rw : RwC Z w l.it l.wn a c E a2 c2
  nz : ¬ Z g
def PkAt (Z : Nat → Prop) (w : World) (g : Nat) (l : St Nx) : Prop := ∃ a c E a2 c2, PkC Z w g l a c E a2 c2
theorem PkC.gr {w w' : World} {g : Nat} {l : St Nx} {a : Option Addr} {c : Nat} {E : List Mi} {a2 : Option Addr} {c2 : Nat} (h : PkC Z w g l a c E a2 c2) (k : Gr w w') : PkC Z w' g l a c E a2 c2 := ⟨h.cs.gr k, h.rw.gr k, h.nz⟩
theorem PkAt.gr {w w' : World} {g : Nat} {l : St Nx} (h : PkAt Z w g l) (k : Gr w w') : PkAt Z w' g l := by
  obtain ⟨a, c, E, a2, c2, h⟩ := h
  exact ⟨a, c, E, a2, c2, h.gr k⟩
theorem PkAt.gb {b : Nat} {w w' : World} {g : Nat} {l : St Nx} (h : PkAt Z w g l) (k : GB b w w') (hb : ¬ Z b) (hg : g ≠ b) : PkAt Z w' g l := by
  obtain ⟨a, c, E, a2, c2, h⟩ := h
  exact ⟨a, c, E, a2, c2, k.cs h.cs hg, h.rw.gb k hb, h.nz⟩
theorem PkAt.nz {w : World} {g : Nat} {l : St Nx} (h : PkAt Z w g l) : ¬ Z g := by
  obtain ⟨a, c, E, a2, c2, h⟩ := h
  exact h.nz
theorem PkAt.lt {w : World} {g : Nat} {l : St Nx} (h : PkAt Z w g l) : g < w.heap.size := by
  obtain ⟨a, c, E, a2, c2, h⟩ := h
  exact h.cs.lt
/- of blocks something else is asked -/
theorem PkAt.turn {Y : Nat → Prop} {w : World} {g : Nat} {l : St Nx} (h : PkAt Z w g l) (hy : ∀ b, b < w.heap.size → Z b → Y b) (hg : ¬ Y g) : PkAt Y w g l := by
  obtain ⟨a, c, E, a2, c2, h⟩ := h
  exact ⟨a, c, E, a2, c2, h.cs, h.rw.turn hy, hg⟩
/- cells are written -/
theorem PkC.items {w : World} {g : Nat} {l : St Nx} {a : Option Addr} {c : Nat} {E : List Mi} {a2 : Option Addr} {c2 : Nat} (h : PkC Z w g l a c E a2 c2) {b : Option Addr} {d : Nat} {F : List Mi} (hF : BxN Z w b d F) :
    PkC Z (w.setCell ⟨g, 3, none⟩ (.slice b F.length d)) g { l with it := its F } b d F a2 c2 :=
  ⟨h.cs.set 3 (by simp) _, (h.rw.items hF).gb (gb_set _ _ _ _) h.nz, h.nz⟩
theorem PkC.next {w : World} {g : Nat} {l : St Nx} {a : Option Addr} {c : Nat} {E : List Mi} {a2 : Option Addr} {c2 : Nat} (h : PkC Z w g l a c E a2 c2) (n : Int) :
    PkC Z (w.setCell ⟨g, 4, none⟩ (.int .i64 n)) g { l with nx := n } a c E a2 c2 :=
  ⟨h.cs.set 4 (by simp) _, h.rw.gb (gb_set _ _ _ _) h.nz, h.nz⟩
theorem PkC.know {w : World} {g : Nat} {l : St Nx} {a : Option Addr} {c : Nat} {E : List Mi} {a2 : Option Addr} {c2 : Nat} (h : PkC Z w g l a c E a2 c2) (n : Int) :
    PkC Z (w.setCell ⟨g, 5, none⟩ (.int .i64 n)) g { l with kn := n } a c E a2 c2 :=
  ⟨h.cs.set 5 (by simp) _, h.rw.gb (gb_set _ _ _ _) h.nz, h.nz⟩
theorem PkC.owe {w : World} {g : Nat} {l : St Nx} {a : Option Addr} {c : Nat} {E : List Mi} {a2 : Option Addr} {c2 : Nat} (h : PkC Z w g l a c E a2 c2) (o : Bool) :
    PkC Z (w.setCell ⟨g, 8, none⟩ (.bool o)) g { l with ow := o } a c E a2 c2 :=
  ⟨h.cs.set 8 (by simp) _, h.rw.gb (gb_set _ _ _ _) h.nz, h.nz⟩
theorem PkC.window {w : World} {g : Nat} {l : St Nx} {a : Option Addr} {c : Nat} {E : List Mi} {a2 : Option Addr} {c2 : Nat} (h : PkC Z w g l a c E a2 c2) {b : Option Addr} {d : Nat} {W : Wn.Wd} (hW : WdAt w b d W) (hn : W.seen ≠ [] → ∀ p, b = some p → Z p.block) :
    PkC Z ((w.setCell ⟨g, 6, none⟩ (.int .i64 W.low)).setCell ⟨g, 7, none⟩ (.slice b W.seen.length d)) g { l with wn := W } a c E b d :=
  ⟨(h.cs.set 6 (by simp) _).set 7 (by simp) _, ((h.rw.window hW hn).gb (gb_set _ _ _ _) h.nz).gb (gb_set _ _ _ _) h.nz, h.nz⟩

set_option maxHeartbeats 400000 in
theorem kWithin_any (n l h : Int) (w : World) : Calls Try.prog 33 #[.int .i64 n, .int .i64 l, .int .i64 h] w fun e w' => e = .returned (.bool (Nt.inB n l h)) ∧ w' = w := by
  unfold Nt.inB
  by_cases a : l ≤ n
  · rw [decide_eq_true a, Bool.true_and]
    go_enter Try.func33, Try.ntmps33
    go_wp2
    go_ret
    exact ⟨rfl, rfl⟩
  · rw [decide_eq_false a, Bool.false_and]
    go_enter Try.func33, Try.ntmps33
    go_wp2
    go_ret
    exact ⟨rfl, rfl⟩
set_option maxHeartbeats 400000 in
theorem kTime_any (n : Int) (w : World) : Calls Try.prog 28 #[.int .i64 n] w fun e w' => e = .returned (.bool (Ox.tmB n)) ∧ w' = w := by
  have HW : Hid (∀ w', Calls Try.prog 33 #[.int .i64 n, .int .i64 0, .int .i64 1000000000] w' fun e w2 => e = .returned (.bool (Ox.tmB n)) ∧ w2 = w') := fun w' => by rw [← tm_in]; exact kWithin_any n 0 1000000000 w'
  generalize Ox.tmB n = b at *
  go_enter Try.func28, Try.ntmps28
  go_wp2_with fail
  refine (HW.out _).mono ?_
  rintro e1 w1 ⟨rfl, hw1⟩; obtain rfl := hw1.symm
  go_wp2
  go_ret
  exact ⟨rfl, rfl⟩
set_option maxHeartbeats 400000 in
theorem kOrg_any (n : Int) (w : World) : Calls Try.prog 32 #[.int .i64 n] w fun e w' => e = .returned (.bool (Nt.inB n 0 15)) ∧ w' = w := by
  have HW : Hid (∀ w', Calls Try.prog 33 #[.int .i64 n, .int .i64 0, .int .i64 15] w' fun e w2 => e = .returned (.bool (Nt.inB n 0 15)) ∧ w2 = w') := fun w' => kWithin_any n 0 15 w'
  generalize Nt.inB n 0 15 = b at *
  go_enter Try.func32, Try.ntmps32
  go_wp2_with fail
  refine (HW.out _).mono ?_
  rintro e1 w1 ⟨rfl, hw1⟩; obtain rfl := hw1.symm
  go_wp2
  go_ret
  exact ⟨rfl, rfl⟩
/- was a link made? -/
set_option maxHeartbeats 400000 in
theorem made_any (g : Nat) (n : Int) (w : World) (h : w.cell? ⟨g, 2, none⟩ = some (.int .i64 n)) : Calls Try.prog 19 #[.pointer (some ⟨g, 0, none⟩)] w fun e w' => e = .returned (.bool (!decide (n = 0))) ∧ w' = w := by
  by_cases e : n = 0
  · subst e
    go_enter Try.func19, Try.ntmps19
    go_wp2
    go_ret
    exact ⟨rfl, rfl⟩
  · have hb : (n != 0) = true := bne_iff_ne.2 e
    rw [decide_eq_false e]
    clear e
    go_enter Try.func19, Try.ntmps19
    go_wp2
    go_ret
    exact ⟨rfl, rfl⟩
set_option maxHeartbeats 400000 in
theorem made_none (w : World) : Calls Try.prog 19 #[.pointer none] w fun e w' => e = .returned (.bool false) ∧ w' = w := by
  go_enter Try.func19, Try.ntmps19
  go_wp2
  go_ret
  exact ⟨rfl, rfl⟩
/- what New answers -/
def NwK (me pe ep : Int) (w : World) (e : Ending) (w' : World) : Prop :=
  if Lk.newB me pe ep = true then (∃ g, e = .returned (.tuple #[.pointer (some ⟨g, 0, none⟩), .int .i64 0]) ∧ (∀ Z, ¬ Z g → PkAt Z w' g (Lk.new me pe ep)) ∧ w.heap.size ≤ g ∧ Gr w w') else (e = .returned (.tuple #[.pointer none, .int .i64 2]) ∧ Gr w w')
theorem pk_new {w : World} {me pe ep : Int} {t : TypeId} {g : Nat} (hg : g = w.heap.size) (hz : ¬ Z g) : PkAt Z (w.alloc (.cells #[.int .i64 me, .int .i64 pe, .int .i64 ep, .slice none 0 0, .int .i64 1, .int .i64 0, .int .i64 0, .slice none 0 0, .bool false] t)) g (Lk.new me pe ep) := by
  subst hg
  exact ⟨none, 0, [], none, 0, Cs.new _ _ _ _ rfl, ⟨ItsAt.nil, rfl, Nat.le_refl _, by simp, wd_none _, (fun h => absurd rfl h), (fun h => absurd rfl h)⟩, hz⟩
theorem new_parts (me pe ep : Int) : Lk.newB me pe ep = (Nt.inB me 0 15 && (Nt.inB pe 0 15 && (!(me == pe) && Nt.inB ep 1 1000000000))) := by
  unfold Lk.newB Nt.inB
  rw [Bool.eq_iff_iff]
  simp [and_assoc]
set_option maxHeartbeats 4000000 in
set_option maxRecDepth 100000 in
theorem kNew_any (me pe ep : Int) (w : World) : Calls Try.prog 17 #[.int .i64 me, .int .i64 pe, .int .i64 ep] w fun e w' => NwK me pe ep w e w' := by
  have H1 : Hid (∀ w', Calls Try.prog 32 #[.int .i64 me] w' fun e w2 => e = .returned (.bool (Nt.inB me 0 15)) ∧ w2 = w') := fun w' => kOrg_any me w'
  have H2 : Hid (∀ w', Calls Try.prog 32 #[.int .i64 pe] w' fun e w2 => e = .returned (.bool (Nt.inB pe 0 15)) ∧ w2 = w') := fun w' => kOrg_any pe w'
  have H3 : Hid (∀ w', Calls Try.prog 33 #[.int .i64 ep, .int .i64 1, .int .i64 1000000000] w' fun e w2 => e = .returned (.bool (Nt.inB ep 1 1000000000)) ∧ w2 = w') := fun w' => kWithin_any ep 1 1000000000 w'
  unfold NwK
  rw [new_parts]
  generalize Nt.inB me 0 15 = b1 at *
  generalize Nt.inB pe 0 15 = b2 at *
  generalize Nt.inB ep 1 1000000000 = b3 at *
  obtain ⟨b4, h4⟩ : ∃ b, (me == pe) = b := ⟨_, rfl⟩
  rw [h4]
  cases b1
  · go_enter Try.func17, Try.ntmps17
    go_wp2_with fail
    refine (H1.out _).mono ?_
    rintro e1 w1 ⟨rfl, hw1⟩; obtain rfl := hw1.symm
    go_wp2
    go_ret2
    exact ⟨rfl, Gr.refl _⟩
  · cases b2
    · go_enter Try.func17, Try.ntmps17
      go_wp2_with fail
      refine (H1.out _).mono ?_
      rintro e1 w1 ⟨rfl, hw1⟩; obtain rfl := hw1.symm
      go_wp2_with fail
      refine (H2.out _).mono ?_
      rintro e1 w1 ⟨rfl, hw1⟩; obtain rfl := hw1.symm
      go_wp2
      go_ret2
      exact ⟨rfl, Gr.refl _⟩
    · cases b4
      · cases b3
        · go_enter Try.func17, Try.ntmps17
          go_wp2_with fail
          refine (H1.out _).mono ?_
          rintro e1 w1 ⟨rfl, hw1⟩; obtain rfl := hw1.symm
          go_wp2_with fail
          refine (H2.out _).mono ?_
          rintro e1 w1 ⟨rfl, hw1⟩; obtain rfl := hw1.symm
          go_wp2_with fail
          refine (H3.out _).mono ?_
          rintro e1 w1 ⟨rfl, hw1⟩; obtain rfl := hw1.symm
          go_wp2
          go_ret2
          exact ⟨rfl, Gr.refl _⟩
        · go_enter Try.func17, Try.ntmps17
          go_wp2_with fail
          refine (H1.out _).mono ?_
          rintro e1 w1 ⟨rfl, hw1⟩; obtain rfl := hw1.symm
          go_wp2_with fail
          refine (H2.out _).mono ?_
          rintro e1 w1 ⟨rfl, hw1⟩; obtain rfl := hw1.symm
          go_wp2_with fail
          refine (H3.out _).mono ?_
          rintro e1 w1 ⟨rfl, hw1⟩; obtain rfl := hw1.symm
          go_wp2
          go_ret2
          exact ⟨w.heap.size, rfl, fun Z hz => pk_new rfl hz, Nat.le_refl _, (Gr.refl _).alloc⟩
      · go_enter Try.func17, Try.ntmps17
        go_wp2_with fail
        refine (H1.out _).mono ?_
        rintro e1 w1 ⟨rfl, hw1⟩; obtain rfl := hw1.symm
        go_wp2_with fail
        refine (H2.out _).mono ?_
        rintro e1 w1 ⟨rfl, hw1⟩; obtain rfl := hw1.symm
        go_wp2
        go_ret2
        exact ⟨rfl, Gr.refl _⟩
/- what looks -/
set_option maxHeartbeats 1000000 in
theorem kWaiting_any (g : Nat) (l : St Nx) (w : World) (h : PkAt Z w g l) (he : l.ep ≠ 0) : Calls Try.prog 10 #[.pointer (some ⟨g, 0, none⟩)] w fun e w' => e = .returned (.int .i64 (l.it.length : Int)) ∧ w' = w := by
  obtain ⟨a, c, E, a2, c2, h⟩ := h
  have HM : Hid (Calls Try.prog 19 #[.pointer (some ⟨g, 0, none⟩)] w fun e w2 => e = .returned (.bool true) ∧ w2 = w) := by
    have := made_any g l.ep w (h.cs.at_ 2 _ rfl)
    rwa [decide_eq_false he] at this
  have hl : l.it.length = E.length := by rw [← h.rw.e, its_len]
  have c3 := h.cs.at_ 3 _ rfl
  have clt := h.cs.lt
  rw [hl]
  clear h he hl
  go_enter Try.func10, Try.ntmps10
  go_wp2_with fail
  refine HM.out.mono ?_
  rintro e1 w1 ⟨rfl, hw1⟩; obtain rfl := hw1.symm
  go_wp2
  go_ret
  exact ⟨rfl, rfl⟩
set_option maxHeartbeats 1000000 in
theorem kPeer_any (g : Nat) (l : St Nx) (w : World) (h : PkAt Z w g l) (he : l.ep ≠ 0) : Calls Try.prog 11 #[.pointer (some ⟨g, 0, none⟩)] w fun e w' => e = .returned (.int .i64 l.kn) ∧ w' = w := by
  obtain ⟨a, c, E, a2, c2, h⟩ := h
  have HM : Hid (Calls Try.prog 19 #[.pointer (some ⟨g, 0, none⟩)] w fun e w2 => e = .returned (.bool true) ∧ w2 = w) := by
    have := made_any g l.ep w (h.cs.at_ 2 _ rfl)
    rwa [decide_eq_false he] at this
  have c5 := h.cs.at_ 5 _ rfl
  have clt := h.cs.lt
  clear h he
  go_enter Try.func11, Try.ntmps11
  go_wp2_with fail
  refine HM.out.mono ?_
  rintro e1 w1 ⟨rfl, hw1⟩; obtain rfl := hw1.symm
  go_wp2
  go_ret
  exact ⟨rfl, rfl⟩
set_option maxHeartbeats 4000000 in
set_option maxRecDepth 100000 in
theorem kWaits_any (g : Nat) (l : St Nx) (m : Mn) (w : World) (h : PkAt Z w g l) (he : l.ep ≠ 0) (hm : MnAt Z w m) :
    Calls Try.prog 9 #[.pointer (some ⟨g, 0, none⟩), m.v] w fun e w' => e = .returned (.bool (Ox.hasB okN l.it (pk m.x))) ∧ Gr w w' := by
  obtain ⟨a, c, E, a2, c2, h⟩ := h
  have HM : Hid (∀ w', w'.cell? ⟨g, 2, none⟩ = some (.int .i64 l.ep) → Calls Try.prog 19 #[.pointer (some ⟨g, 0, none⟩)] w' fun e w2 => e = .returned (.bool true) ∧ w2 = w') := fun w' k => by
    have := made_any g l.ep w' k
    rwa [decide_eq_false he] at this
  have HH : Hid (∀ w', Gr w w' → Calls Try.prog 27 #[.slice a E.length c, m.v] w' fun e w2 => e = .returned (.bool (Ox.hasB okN l.it (pk m.x))) ∧ Gr w' w2) := fun w' k => by
    have := hasO_any E m a c w' (h.rw.row.gr k) h.rw.ec h.rw.en (hm.gr k)
    rw [h.rw.e] at this
    exact this
  have c2' := h.cs.at_ 2 _ rfl
  have c3 := h.cs.at_ 3 _ rfl
  have clt := h.cs.lt
  generalize Ox.hasB okN l.it (pk m.x) = R at *
  clear h hm he
  obtain ⟨⟨k0, r, n, L, d, y⟩, ad2, cap2⟩ := m
  dsimp only [Mn.v] at *
  generalize L.length = ll at *
  generalize E.length = le at *
  generalize l.ep = ep at *
  have hgW : Gr w (w.alloc (.cells #[.int .i64 k0, .int .i64 r, .int .i64 n, .slice ad2 ll cap2, .string d, .int .i64 y] 26)) := (Gr.refl _).alloc
  have b2 := hgW.keep c2'
  have b3 := hgW.keep c3
  have B1 := Cs.new w [.int .i64 k0, .int .i64 r, .int .i64 n, .slice ad2 ll cap2, .string d, .int .i64 y] 26 _ rfl
  have z0 := B1.at_ 0 _ rfl
  have z1 := B1.at_ 1 _ rfl
  have z2 := B1.at_ 2 _ rfl
  have z3 := B1.at_ 3 _ rfl
  have z4 := B1.at_ 4 _ rfl
  have z5 := B1.at_ 5 _ rfl
  have zf0 := B1.fz 0 (by simp)
  have zf1 := B1.fz 1 (by simp)
  have zf2 := B1.fz 2 (by simp)
  have zf3 := B1.fz 3 (by simp)
  have zf4 := B1.fz 4 (by simp)
  have zf5 := B1.fz 5 (by simp)
  have zlt := B1.lt
  go_enter Try.func9, Try.ntmps9
  go_wp2_with fail
  refine wp_region_held_drew (S := (fun w' => Gr w w' ∧ w'.cell? ⟨g, 2, none⟩ = some (.int .i64 ep) ∧ w'.cell? ⟨g, 3, none⟩ = some (.slice a le c) ∧ w'.cell? ⟨w.heap.size, 0, none⟩ = some (.int .i64 k0) ∧ w'.cell? ⟨w.heap.size, 1, none⟩ = some (.int .i64 r) ∧ w'.cell? ⟨w.heap.size, 2, none⟩ = some (.int .i64 n) ∧ w'.cell? ⟨w.heap.size, 3, none⟩ = some (.slice ad2 ll cap2) ∧ w'.cell? ⟨w.heap.size, 4, none⟩ = some (.string d) ∧ w'.cell? ⟨w.heap.size, 5, none⟩ = some (.int .i64 y))) (by kernel_rfl) (by exact ⟨(by repeat(first|exact Gr.r _|refine Gr.a ?_|refine Gr.d ?_|refine Gr.t ?_ (by assumption))), Gr.keep (by repeat(first|exact Gr.r _|refine Gr.a ?_|refine Gr.d ?_|refine Gr.t ?_ (by assumption))) b2, Gr.keep (by repeat(first|exact Gr.r _|refine Gr.a ?_|refine Gr.d ?_|refine Gr.t ?_ (by assumption))) b3, Gr.keep (by repeat(first|exact Gr.r _|refine Gr.a ?_|refine Gr.d ?_|refine Gr.t ?_ (by assumption))) z0, Gr.keep (by repeat(first|exact Gr.r _|refine Gr.a ?_|refine Gr.d ?_|refine Gr.t ?_ (by assumption))) z1, Gr.keep (by repeat(first|exact Gr.r _|refine Gr.a ?_|refine Gr.d ?_|refine Gr.t ?_ (by assumption))) z2, Gr.keep (by repeat(first|exact Gr.r _|refine Gr.a ?_|refine Gr.d ?_|refine Gr.t ?_ (by assumption))) z3, Gr.keep (by repeat(first|exact Gr.r _|refine Gr.a ?_|refine Gr.d ?_|refine Gr.t ?_ (by assumption))) z4, Gr.keep (by repeat(first|exact Gr.r _|refine Gr.a ?_|refine Gr.d ?_|refine Gr.t ?_ (by assumption))) z5⟩) (fun hHeld => ?_)
  refine ty 0 5 hHeld ?_
  refine wpAnyH_ready (rs := [1]) (by kernel_rfl) (by simp) (AllReadyH.cons rfl (fun K hK => ?_) AllReadyH.nil)
  go_simp
  (go_at_call 19; refine (HM.out _ hHeld.2.1).mono ?_; rintro e wn ⟨rfl, hwn⟩; obtain rfl := hwn.symm)
  (try go_wp2_with fail)
  refine hK.out _ _ (by exact ⟨(by repeat(first|exact Gr.r _|refine Gr.a ?_|refine Gr.d ?_|refine Gr.t ?_ (by assumption))), Gr.keep (by repeat(first|exact Gr.r _|refine Gr.a ?_|refine Gr.d ?_|refine Gr.t ?_ (by assumption))) b2, Gr.keep (by repeat(first|exact Gr.r _|refine Gr.a ?_|refine Gr.d ?_|refine Gr.t ?_ (by assumption))) b3, Gr.keep (by repeat(first|exact Gr.r _|refine Gr.a ?_|refine Gr.d ?_|refine Gr.t ?_ (by assumption))) z0, Gr.keep (by repeat(first|exact Gr.r _|refine Gr.a ?_|refine Gr.d ?_|refine Gr.t ?_ (by assumption))) z1, Gr.keep (by repeat(first|exact Gr.r _|refine Gr.a ?_|refine Gr.d ?_|refine Gr.t ?_ (by assumption))) z2, Gr.keep (by repeat(first|exact Gr.r _|refine Gr.a ?_|refine Gr.d ?_|refine Gr.t ?_ (by assumption))) z3, Gr.keep (by repeat(first|exact Gr.r _|refine Gr.a ?_|refine Gr.d ?_|refine Gr.t ?_ (by assumption))) z4, Gr.keep (by repeat(first|exact Gr.r _|refine Gr.a ?_|refine Gr.d ?_|refine Gr.t ?_ (by assumption))) z5⟩) (fun hHeldN => ?_)
  clear hHeld hK K
  have hHeld := hHeldN
  clear hHeldN
  refine ty 2 7 hHeld ?_
  refine ty 3 8 hHeld ?_
  refine ty 4 9 hHeld ?_
  refine ty 5 10 hHeld ?_
  refine ty 6 11 hHeld ?_
  refine ty 7 12 hHeld ?_
  refine ty 8 13 hHeld ?_
  refine wpAnyH_ready (rs := [9]) (by kernel_rfl) (by simp) (AllReadyH.cons rfl (fun K hK => ?_) AllReadyH.nil)
  go_simp
  (go_at_call 27; refine (HH.out _ hHeld.1).mono ?_; rintro e wn ⟨rfl, hgn⟩)
  (try go_wp2_with fail)
  refine hK.out _ _ (by exact ⟨(by repeat(first|exact Gr.r _|refine Gr.a ?_|refine Gr.d ?_|refine Gr.t ?_ (by assumption))), Gr.keep (by repeat(first|exact Gr.r _|refine Gr.a ?_|refine Gr.d ?_|refine Gr.t ?_ (by assumption))) b2, Gr.keep (by repeat(first|exact Gr.r _|refine Gr.a ?_|refine Gr.d ?_|refine Gr.t ?_ (by assumption))) b3, Gr.keep (by repeat(first|exact Gr.r _|refine Gr.a ?_|refine Gr.d ?_|refine Gr.t ?_ (by assumption))) z0, Gr.keep (by repeat(first|exact Gr.r _|refine Gr.a ?_|refine Gr.d ?_|refine Gr.t ?_ (by assumption))) z1, Gr.keep (by repeat(first|exact Gr.r _|refine Gr.a ?_|refine Gr.d ?_|refine Gr.t ?_ (by assumption))) z2, Gr.keep (by repeat(first|exact Gr.r _|refine Gr.a ?_|refine Gr.d ?_|refine Gr.t ?_ (by assumption))) z3, Gr.keep (by repeat(first|exact Gr.r _|refine Gr.a ?_|refine Gr.d ?_|refine Gr.t ?_ (by assumption))) z4, Gr.keep (by repeat(first|exact Gr.r _|refine Gr.a ?_|refine Gr.d ?_|refine Gr.t ?_ (by assumption))) z5⟩) (fun hHeldN => ?_)
  clear hHeld hK K
  have hHeld := hHeldN
  clear hHeldN
  refine ty 10 15 hHeld ?_
  refine ty 11 4 hHeld ?_
  refine wpAnyH_done (by kernel_rfl) ?_ _
  go_wp2
  go_ret
  exact ⟨rfl, hHeld.1⟩
end Go.Proofs.Ythfbpilfdfploaa
namespace Go.Proofs.Ythfbpilfdfploaa
open Go.RowKit

variable {Z : Nat → Prop}
theorem grown_same (w : World) (r : Option Nat) : w.grownBy w r := ⟨rfl, rfl, rfl, Nat.le_refl _, fun _ _ _ => rfl⟩
/- append of a whole row onto an empty literal of the call's own -/
theorem wpList_copyL {P : Program} {w : World} {ops : Array Oper} {rest : List Oper} {o : Oper} {a : Act} {Q : Exit → Act → World → Prop} (hgd : o.guard = none) (s x : Operand) (t : TypeId)
    (ho : o.op = .call { callee := .builtin .append, args := #[s, x], argTypes := #[t, t] })
    (base : Nat) (e : TypeId) (i : TypeInfo) (z : Value) (size bytes : Nat) (ht : P.underlying t = some (.slice e)) (hi : P.info? e = some i) (hz : i.zero = some z) (hsize : i.size = size) (hby : i.bytes = bytes) (hzs : z.cells.size = size) (hsz : 0 < size)
    (v : Value) (hs : a.eval s = v) (hown : w.ownsRow base e size v 0 []) {α : Type} {f : α → List Value} (hf : ∀ x, (f x).length = size) (hf1 : ∀ (L : List α), ∀ u ∈ L.flatMap f, u.oneCell' = true) (L : List α) (ad : Option Addr) (c : Nat) (hx : a.eval x = .slice ad L.length c) (row : RowAt f w ad L)
    (h63 : L.length ≤ maxLen) (hbytes : L.length * bytes ≤ 140737488355328) (hbase : base ≤ w.heap.size)
    (h : ∀ v' w', w'.ownsRow base e size v' L.length (L.flatMap f) → w.grownBy w' v.ownBlock → (v'.ownBlock = v.ownBlock ∨ v'.ownBlock = some w.heap.size) → wpList P ops Q rest (a.put o.dst v') w') : wpList P ops Q (o :: rest) a w := by
  cases ad with
  | none =>
    have := RowAt.none hf hsz row
    subst this
    exact append_gone hgd s x t ho base e i size ht hi v 0 [] hs hown c hx (h v w hown (grown_same _ _) (Or.inl rfl))
  | some p =>
    refine wpList_append_own_at _ hgd s x t ho base e i z size bytes ht hi hz hsize hby hzs hsz v 0 [] hs hown p L.length c (L.flatMap f) hx (flat_len hf L) row.news (hf1 L) (by omega) (by rw [Nat.zero_add]; exact hbytes) hbase ?_
    intro v' w' h1 h2 _ h4
    refine h v' w' ?_ h2 h4
    rw [Nat.zero_add, List.nil_append] at h1
    exact h1
theorem own_lit9 (w : World) (base : Nat) (t : TypeId) (g : Nat) (hg : g = w.heap.size) (hb : base ≤ w.heap.size) : (w.alloc (.cells #[] t)).ownsRow base t 9 (.slice (some ⟨g, 0, none⟩) 0 0) 0 [] := by
  subst hg; exact World.ownsRow_lit w #[] 0 hb (by unfold maxLen; omega) rfl
theorem next_at {D : List Mi} {k : Nat} (h : D.length = k + 1) (f : Int) : Ox.next (its D) f = if f ≤ D[k].q then D[k].q + 1 else f := by
  rw [next_last h f]
  split <;> omega

end Go.Proofs.Ythfbpilfdfploaa
namespace Go.Proofs.Ythfbpilfdfploaa
open Go.ChangeShapes Go.WideShapes Go.ChangeAt Go.RowKit

theorem own2 : ownKnob Try.prog.godebug = none := by kernel_rfl
theorem laidOut2 : laidOutB Try.prog = true := by kernel_rfl
theorem rng_i64 {n : Int} (h : (Lit.int .i64 n).wf = true) : -9223372036854775808 ≤ n ∧ n ≤ 9223372036854775807 := by
  simp only [Lit.wf, Bool.and_eq_true, decide_eq_true_eq] at h
  exact h
theorem row_of {α : Type} {f : α → List Value} {c : Nat} (hc : ∀ x, (f x).length = c) (h0 : 0 < c) {w : World} {b off : Nat} {L : List α}
    (each : ∀ q (h : q < L.length) r u, (f L[q])[r]? = some u → w.cell? ⟨b, off + (q * c + r), none⟩ = some u) : RowAt f w (some ⟨b, off, none⟩) L := by
  intro j u hu
  have hj : j < (L.flatMap f).length := by
    rcases Nat.lt_or_ge j (L.flatMap f).length with h | h
    · exact h
    · rw [List.getElem?_eq_none h] at hu; cases hu
  rw [flat_len hc] at hj
  have hr : j % c < c := Nat.mod_lt _ h0
  have hq : j / c < L.length := Nat.div_lt_of_lt_mul (by rw [Nat.mul_comm]; exact hj)
  have e : j = j / c * c + j % c := by rw [Nat.mul_comm]; exact (Nat.div_add_mod j c).symm
  rw [e, flat_get hc L (j / c) hq (j % c) hr] at hu
  have h := each (j / c) hq (j % c) u hu
  rw [← e] at h
  exact ⟨b, off, rfl, World.block_lt_of_cell? w _ h, h⟩

theorem open_rows {α : Type} [Inhabited α] {f : α → List Value} {c : Nat} (hc : ∀ x, (f x).length = c) (h0 : 0 < c) {In : α → Prop} {t e : TypeId} (ht : Try.prog.underlying t = some (.slice e)) (ce : Try.prog.cellsOf e = c)
    {H : Type} {enc : TypeId × Value → H} {W : World} {base : Nat} {sp : Nat → Bool} {held : Bool} {fuel : Nat} {a0 : Option Addr} {len0 cap0 : Nat} {x : DataW H × List MemPlace}
    (elem : ∀ (n : Nat) (cs : List Value) (y : DataW H × List MemPlace), cs.length = c → DataW.trod enc Try.prog W base sp held n e cs = some y → ∃ z : α, cs = f z ∧ In z)
    (hf : DataW.trod enc Try.prog W base sp held fuel t [.slice a0 len0 cap0] = some x) :
    ∃ L : List α, len0 = L.length ∧ RowAt f W a0 L ∧ L.length ≤ 9223372036854775807 ∧ ∀ y ∈ L, In y := by
  rcases Deep.open_slice ht hf with ⟨hcs, _⟩ | ⟨a, len, cap, m, n, D, Pl, hcs, _, hl, hm, hmm, _, hx⟩
  · simp at hcs
    obtain ⟨rfl, rfl, rfl⟩ := hcs
    exact ⟨[], rfl, RowAt.nil, by simp, by simp⟩
  · simp at hcs
    obtain ⟨rfl, rfl, rfl⟩ := hcs
    have hlm : len0 ≤ m := by rw [hmm]; split <;> omega
    have each : ∀ i, i < len0 → ∃ z : α, (∀ r u, (f z)[r]? = some u → W.cell? (a.add (i * c + r)) = some u) ∧ In z := by
      intro i hi
      obtain ⟨cs, h1, h2⟩ := hx i (by omega)
      rw [ce] at h1
      obtain ⟨_, hlen, hcell⟩ := World.cells?_some h1
      obtain ⟨z, rfl, hz⟩ := elem n cs _ hlen h2
      refine ⟨z, fun r u hu => ?_, hz⟩
      have hr : r < c := by
        rcases Nat.lt_or_ge r (f z).length with h | h
        · rw [hc] at h; exact h
        · rw [List.getElem?_eq_none h] at hu; cases hu
      have c0 := hcell r hr
      rw [Deep.add_add] at c0
      rw [c0, ← hu]
    obtain ⟨g, hg⟩ := Deep.choose_lt each
    unfold maxLen at hm
    refine ⟨(List.range len0).map g, by simp, ?_, by simp; omega, ?_⟩
    · cases len0 with
      | zero => simp; exact RowAt.nil
      | succ l =>
        obtain ⟨b, off, spot⟩ := a
        have h00 : 0 < (f (g 0)).length := by rw [hc]; exact h0
        have hspot : spot = none := by
          have := World.cell?_spot ((hg 0 (by omega)).1 0 _ (List.getElem?_eq_getElem h00))
          simpa [Addr.add] using this
        subst hspot
        refine row_of hc h0 fun q hq r u hu => ?_
        have hq' : q < l + 1 := by simpa using hq
        have := (hg q hq').1 r u (by simpa using hu)
        rwa [Addr.add_lit] at this
    · intro y hy
      obtain ⟨j, hj, rfl⟩ := List.mem_map.1 hy
      exact (hg j (by simpa using hj)).2

set_option maxRecDepth 100000 in
theorem trod_nt {H : Type} {enc : TypeId × Value → H} {W : World} {base : Nat} {sp : Nat → Bool} {held : Bool} (n : Nat) (cs : List Value) (y : DataW H × List MemPlace) (hl : cs.length = 6)
    (h : DataW.trod enc Try.prog W base sp held n 26 cs = some y) : ∃ z : Mn, cs = nC z ∧ MnAt Any W z := by
  match cs, hl with
  | [v0, v1, v2, v3, v4, v5], _ =>
    obtain ⟨x, ad, cap, e, h1, h2, h3, h4⟩ := trod_note h
    exact ⟨⟨x, ad, cap⟩, e, h1, h2, h3, h4, fun _ _ _ => trivial⟩
set_option maxRecDepth 100000 in
theorem trod_it {H : Type} {enc : TypeId × Value → H} {W : World} {base : Nat} {sp : Nat → Bool} {held : Bool} (n : Nat) (cs : List Value) (y : DataW H × List MemPlace) (hl : cs.length = 9)
    (h : DataW.trod enc Try.prog W base sp held n 79 cs = some y) : ∃ z : Mi, cs = iC z ∧ MnAt Any W z.m := by
  match cs, hl with
  | [a0, a1, a2, c0, c1, c2, c3, c4, c5], _ =>
    obtain ⟨xs, n, _, rfl, hl, hlen, hf⟩ := DataW.trod_struct Try.underlying79 h
    have k0 : Try.prog.cellsOf 3 = 1 := by kernel_rfl
    have k6 : Try.prog.cellsOf 26 = 6 := by kernel_rfl
    match xs, hlen with
    | [y0, y1, y2, y3], _ =>
      have t0 := hf 0 _ rfl
      have t1 := hf 1 _ rfl
      have t2 := hf 2 _ rfl
      have t3 := hf 3 _ rfl
      simp [k0, k6] at t0 t1 t2 t3
      obtain ⟨z0, e0, _⟩ := DataW.trod_int Try.underlying3 t0
      obtain ⟨z1, e1, _⟩ := DataW.trod_int Try.underlying3 t1
      obtain ⟨z2, e2, _⟩ := DataW.trod_int Try.underlying3 t2
      obtain ⟨x, ad, cap, e, h1, h2, h3, h4⟩ := trod_note t3
      simp at e0 e1 e2
      subst e0 e1 e2
      simp only [List.cons.injEq, and_true] at e
      obtain ⟨rfl, rfl, rfl, rfl, rfl, rfl⟩ := e
      exact ⟨⟨z0, z1, z2, ⟨x, ad, cap⟩⟩, rfl, h1, h2, h3, h4, fun _ _ _ => trivial⟩
set_option maxRecDepth 100000 in
theorem open_items {H : Type} {enc : TypeId × Value → H} {W : World} {base : Nat} {v : Value} {d : DataW H} {ps : List MemPlace}
    (hok : Value.okWide Try.prog W .any base 32 v) (h : DataW.Trod enc Try.prog W 0 (fun _ => true) true 32 v d ps) :
    ∃ ad cap, ∃ D : List Mi, v = .slice ad D.length cap ∧ ItsAt Any W ad D ∧ D.length ≤ cap ∧ D.length ≤ 9223372036854775807 := by
  obtain ⟨a0, len0, cap0, rfl⟩ := okWide_slice Try.underlying32 hok
  obtain ⟨fuel, hf⟩ := h
  simp only [Value.cells] at hf
  have hiA : Inhabited Mi := ⟨⟨0, 0, 0, ⟨Nt.zeroN, none, 0⟩⟩⟩
  obtain ⟨D, rfl, h1, h2, h3⟩ := open_rows iC_len (by decide) Try.underlying32 (by kernel_rfl) (trod_it (W := W)) hf
  refine ⟨a0, cap0, D, rfl, ⟨h1, fun d hd => h3 d hd⟩, ?_, h2⟩
  rcases Deep.open_slice Try.underlying32 hf with ⟨hcs, _⟩ | ⟨a, len, cap, m, n, D', Pl, hcs, _, hl, hm, hmm, _, hx⟩
  · simp at hcs
    obtain ⟨rfl, e, rfl⟩ := hcs
    simp [e]
  · simp at hcs
    obtain ⟨rfl, e, rfl⟩ := hcs
    omega
set_option maxRecDepth 100000 in
theorem open_notes {H : Type} {enc : TypeId × Value → H} {W : World} {base : Nat} {v : Value} {d : DataW H} {ps : List MemPlace}
    (hok : Value.okWide Try.prog W .any base 73 v) (h : DataW.Trod enc Try.prog W 0 (fun _ => true) true 73 v d ps) :
    ∃ ad cap, ∃ Q : List Mn, v = .slice ad Q.length cap ∧ NtsAt Any W ad Q ∧ Q.length ≤ 9223372036854775807 := by
  obtain ⟨a0, len0, cap0, rfl⟩ := okWide_slice Try.underlying73 hok
  obtain ⟨fuel, hf⟩ := h
  simp only [Value.cells] at hf
  have hiA : Inhabited Mn := ⟨⟨Nt.zeroN, none, 0⟩⟩
  obtain ⟨Q, rfl, h1, h2, h3⟩ := open_rows nC_len (by decide) Try.underlying73 (by kernel_rfl) (trod_nt (W := W)) hf
  exact ⟨a0, cap0, Q, rfl, ⟨h1, fun d hd => h3 d hd⟩, h2⟩
set_option maxRecDepth 100000 in
theorem open_a2 {H : Type} {enc : TypeId × Value → H} {W : World} {base : Nat} {v : Value} {d : DataW H} {ps : List MemPlace}
    (hok : Value.okWide Try.prog W .any base 59 v) (h : DataW.Trod enc Try.prog W 0 (fun _ => true) true 59 v d ps) :
    ∃ x y : Int, v = .agg #[.int .i64 x, .int .i64 y] ∧ (-9223372036854775808 ≤ x ∧ x ≤ 9223372036854775807) ∧ (-9223372036854775808 ≤ y ∧ y ≤ 9223372036854775807) := by
  simp only [Value.okWide, Try.underlying59] at hok
  obtain ⟨cs, rfl, hsz, _⟩ := hok
  have hsz2 : cs.size = 2 := hsz.trans (by kernel_rfl)
  obtain ⟨l⟩ := cs
  match l, hsz2 with
  | [a, b], _ =>
    obtain ⟨fuel, hf⟩ := h
    simp only [Value.cells] at hf
    obtain ⟨xs, m, _, _, _, hl, hx⟩ := DataW.trod_array Try.underlying59 hf
    have k0 : Try.prog.cellsOf 3 = 1 := by kernel_rfl
    have t0 := hx 0 (by omega)
    have t1 := hx 1 (by omega)
    rw [List.getElem?_eq_getElem (by omega)] at t0 t1
    simp [k0] at t0 t1
    obtain ⟨z0, e0, _, r0⟩ := DataW.trod_int Try.underlying3 t0
    obtain ⟨z1, e1, _, r1⟩ := DataW.trod_int Try.underlying3 t1
    simp at e0 e1
    subst e0 e1
    exact ⟨z0, z1, rfl, rng_i64 r0, rng_i64 r1⟩
end Go.Proofs.Ythfbpilfdfploaa
