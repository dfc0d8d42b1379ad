/- What the proof is made of, part 20. -/
import Derived.Test.YtfobfpigbfepoaaDoorTLBBack19
import Derived.Test.YtfobfpigbfepoaaDoorRows
import Derived.ProofKit
import Derived.OpenShut
import Derived.Deep.SlicePairs
import Derived.Deep.Strs
import Derived.ChangeSame
import Derived.LaidMore
import Derived.ChangeSlices
import Derived.ShutString
import Derived.SizedLaws
namespace Go.Proofs.YtfobfpigbfepoaaDoor
open Lex (Tok ckE scT scF scA mayB S gap butL)
open Df (Stp tk Gd prs pE pA pT pN pL stps one isT stpB)
open _root_.Go.Proofs.YtfobfpigbfepoaaDoor.Act (nameB)
def bTk (d : Bk.Dn) : List Tok := ⟨1, Df.wSaga, 0⟩ :: ⟨1, d.nm, 0⟩ :: ⟨3, Df.gOpen, 0⟩ :: (d.L.flatMap sTk ++ [⟨3, Df.gShut, 0⟩])
theorem bTk_len (d : Bk.Dn) : (bTk d).length = 6 * d.L.length + 4 := by
  have : (d.L.flatMap sTk).length = 6 * d.L.length := by
    generalize d.L = L
    induction L with
    | nil => rfl
    | cons s t ih => rw [List.flatMap_cons, List.length_append, ih, sTk_len, List.length_cons]; omega
  unfold bTk
  simp [this]
theorem cut_bk {d : Bk.Dn} (h : Bk.okB d = true) (r : List UInt8) (p : Nat) : ∃ (T : List Tok) (p' : Nat), butL T (bTk d) ∧ S (shT d.nm d.L ++ r) p = (T ++ (S r p').1, (S r p').2) := by
  obtain ⟨hn, _, _, hL⟩ := (Df.def_iff _ _).1 h
  have e1 : shT d.nm d.L ++ r = Df.wSaga.data.toList ++ 32 :: (d.nm.data.toList ++ 32 :: (Df.gOpen.data.toList ++ 10 :: (d.L.flatMap stT ++ (Df.gShut.data.toList ++ 10 :: r)))) := by
    unfold shT shH Df.wSaga Df.gOpen Df.gShut
    simp
  rw [e1, cut_one 1 Df.wSaga _ _ (by decide) (gap32 _), Lex.S_blank _ _ (by decide), cut_one 1 d.nm _ _ (may1 hn) (gap32 _), Lex.S_blank _ _ (by decide), cut_one 3 Df.gOpen _ _ (by decide) (gap10 _), Lex.S_blank _ _ (by decide)]
  obtain ⟨T2, p2, h2, e2⟩ := cut_steps d.L (Df.gShut.data.toList ++ 10 :: r) (p + Df.wSaga.size + 1 + d.nm.size + 1 + Df.gOpen.size + 1) hL
  rw [e2, cut_one 3 Df.gShut _ _ (by decide) (gap10 _), Lex.S_blank _ _ (by decide)]
  dsimp only
  refine ⟨⟨1, Df.wSaga, p⟩ :: ⟨1, d.nm, (p + Df.wSaga.size + 1 : Nat)⟩ :: ⟨3, Df.gOpen, (p + Df.wSaga.size + 1 + d.nm.size + 1 : Nat)⟩ :: (T2 ++ [⟨3, Df.gShut, p2⟩]), p2 + Df.gShut.size + 1, ?_, ?_⟩
  · exact ⟨⟨rfl, rfl⟩, ⟨rfl, rfl⟩, ⟨rfl, rfl⟩, butL_app _ _ _ _ h2 ⟨⟨rfl, rfl⟩, trivial⟩⟩
  · simp only [List.cons_append, List.append_assoc, List.nil_append]
theorem cut_bks : ∀ (D : List Bk.Dn) (p : Nat), (∀ d ∈ D, Bk.okB d = true) → ∃ T : List Tok, butL T (D.flatMap bTk ++ [⟨0, ⟨#[]⟩, 0⟩]) ∧ S (bkT D) p = (T, none)
  | [], p, _ => ⟨[⟨0, ⟨#[]⟩, p⟩], ⟨⟨rfl, rfl⟩, trivial⟩, rfl⟩
  | d :: D, p, h => by
    obtain ⟨T1, p1, h1, e1⟩ := cut_bk (h d (by simp)) (bkT D) p
    obtain ⟨T2, h2, e2⟩ := cut_bks D p1 (fun x hx => h x (by simp [hx]))
    refine ⟨T1 ++ T2, ?_, ?_⟩
    · rw [List.flatMap_cons, List.append_assoc]; exact butL_app _ _ _ _ h1 h2
    · have : bkT (d :: D) = shT d.nm d.L ++ bkT D := by unfold bkT; rw [List.flatMap_cons]
      rw [this, e1, e2]
theorem stps_at2 : ∀ (M : List Stp) (T : List Tok) (f i : Nat) (L : List Stp) (R : List Tok), (∀ s ∈ M, stpB s = true) → M.length < f → T.drop i = M.flatMap sTk ++ ⟨3, Df.gShut, 0⟩ :: R → stps T f i L = (i + 6 * M.length + 1, some (L ++ M)) := by
  intro M
  induction M with
  | nil =>
    intro T f i L R _ hf hd
    cases f with
    | zero => simp at hf
    | succ f =>
      have g0 : tk T i = ⟨3, Df.gShut, 0⟩ := by have := tk_drop T i 0; rw [hd] at this; exact this
      unfold Df.stps
      rw [g0, if_pos (by decide)]; simp
  | cons s t ih =>
    intro T f i L R hM hf hd
    cases f with
    | zero => simp at hf
    | succ f =>
      rw [List.flatMap_cons, List.append_assoc] at hd
      have g0 : tk T i = tk (sTk s ++ (t.flatMap sTk ++ ⟨3, Df.gShut, 0⟩ :: R)) 0 := by have := tk_drop T i 0; rw [hd] at this; exact this
      unfold Df.stps
      rw [g0, sTk_shut, if_neg (by decide), one_at (hM s (by simp)) hd]
      simp only
      have hd2 : T.drop (i + 6) = t.flatMap sTk ++ ⟨3, Df.gShut, 0⟩ :: R := by
        rw [← List.drop_drop, hd, ← sTk_len s, List.drop_left]
      rw [ih T f (i + 6) (L ++ [s]) R (fun x hx => hM x (by simp [hx])) (by simpa using hf) hd2]
      simp only [List.length_cons, List.append_assoc, List.singleton_append, Prod.mk.injEq, and_true]
      omega
theorem prs_at2 {U : List Tok} {i : Nat} {d : Bk.Dn} {R : List Tok} (h : Bk.okB d = true) (hd : U.drop i = bTk d ++ R) : prs U i = (i + (bTk d).length, some (d.nm, d.L)) := by
  obtain ⟨_, _, _, hL⟩ := (Df.def_iff _ _).1 h
  have t0 : tk U i = ⟨1, Df.wSaga, 0⟩ := by have := tk_drop U i 0; rw [hd] at this; exact this
  have t1 : tk U (i + 1) = ⟨1, d.nm, 0⟩ := by have := tk_drop U i 1; rw [hd] at this; exact this
  have t2 : tk U (i + 2) = ⟨3, Df.gOpen, 0⟩ := by have := tk_drop U i 2; rw [hd] at this; exact this
  have hd3 : U.drop (i + 3) = d.L.flatMap sTk ++ ⟨3, Df.gShut, 0⟩ :: R := by
    rw [← List.drop_drop, hd]
    unfold bTk
    simp
  have hlen : (bTk d).length ≤ U.length := by
    have := congrArg List.length hd
    rw [List.length_drop, List.length_append] at this
    omega
  rw [bTk_len] at hlen
  unfold Df.prs
  rw [t0, if_pos (by decide), t1, if_pos rfl, t2, if_pos (by decide), stps_at2 d.L U _ (i + 3) [] R hL (by omega) hd3]
  simp only [List.nil_append, Prod.mk.injEq, and_true]
  rw [bTk_len]; omega
theorem put_end {A : List Bk.Dn} {d : Bk.Dn} {B : List Bk.Dn} (h : Bk.mayB (A ++ d :: B) = true) : Bk.putE A d = 0 ∧ Bk.ins A d = A ++ [d] := by
  obtain ⟨h1, h2, h3⟩ := (Bk.may_iff _).1 h
  rw [List.length_append, List.length_cons] at h1
  have hlt : ∀ j (hj : j < A.length), Bk.lt A[j].nm d.nm = true := by
    intro j hj
    have := Bk.up_lt h3 j A.length hj (by rw [Bk.nms_len, List.length_append, List.length_cons]; omega)
    rw [Bk.nms_get _ j (by rw [List.length_append]; omega), Bk.nms_get _ A.length (by rw [List.length_append, List.length_cons]; omega), List.getElem_append_left hj, List.getElem_append_right (Nat.le_refl _)] at this
    simpa using this
  have hpos : Bk.pos (Bk.nms A) d.nm = A.length := by
    unfold Bk.pos
    rw [show (Bk.nms A).takeWhile (fun x => Bk.lt x d.nm) = Bk.nms A from ?_, Bk.nms_len]
    have key : ∀ (L : List ByteArray), (∀ x ∈ L, Bk.lt x d.nm = true) → L.takeWhile (fun x => Bk.lt x d.nm) = L := by
      intro L
      induction L with
      | nil => intro _; rfl
      | cons y t ih => intro hy; rw [List.takeWhile_cons, hy y (by simp)]; simp only [if_true]; rw [ih (fun z hz => hy z (by simp [hz]))]
    refine key _ fun x hx => ?_
    obtain ⟨y, hy, rfl⟩ := List.mem_map.1 hx
    obtain ⟨j, hj, rfl⟩ := List.getElem_of_mem hy
    exact hlt j hj
  constructor
  · refine Bk.put_zero.2 ⟨h2 d (by simp), fun hm => ?_, by omega⟩
    obtain ⟨y, hy, e⟩ := List.mem_map.1 hm
    obtain ⟨j, hj, rfl⟩ := List.getElem_of_mem hy
    have := hlt j hj
    rw [e, Bk.lt_irrefl] at this; cases this
  · unfold Bk.ins
    rw [hpos, List.take_length, List.drop_length]
theorem RD_all {T : List Tok} (h80 : ckE T ≠ 80) {D : List Bk.Dn} (hm : Bk.mayB D = true) (hT : butL T (D.flatMap bTk ++ [⟨0, ⟨#[]⟩, 0⟩])) : ∀ (B A : List Bk.Dn), D = A ++ B → Bk.RD T (A.flatMap bTk).length A = (0, 0, D)
  | [], A, e => by
    rw [List.append_nil] at e
    subst e
    have hl : T.length = (D.flatMap bTk).length + 1 := by rw [Lex.butL_len _ _ hT, List.length_append]; rfl
    refine Bk.RD_end (by omega) _ ?_
    rw [(tk_but hT _).1, Df.tk_get _ _ (by rw [List.length_append]; simp), List.getElem_append_right (Nat.le_refl _)]
    simp
  | d :: B, A, e => by
    have hok : Bk.okB d = true := ((Bk.may_iff _).1 hm).2.1 d (by rw [e]; simp)
    have hl : T.length = (D.flatMap bTk).length + 1 := by rw [Lex.butL_len _ _ hT, List.length_append]; rfl
    have hdr : (D.flatMap bTk ++ [(⟨0, ⟨#[]⟩, 0⟩ : Tok)]).drop (A.flatMap bTk).length = bTk d ++ (B.flatMap bTk ++ [⟨0, ⟨#[]⟩, 0⟩]) := by
      rw [e, List.flatMap_append, List.append_assoc, List.drop_left, List.flatMap_cons, List.append_assoc]
    have hp : prs T (A.flatMap bTk).length = ((A.flatMap bTk).length + (bTk d).length, some (d.nm, d.L)) := by rw [prs_but hT, prs_at2 hok hdr]
    have hlen : (A.flatMap bTk).length + (bTk d).length ≤ (D.flatMap bTk).length := by
      rw [e, List.flatMap_append, List.flatMap_cons, List.length_append, List.length_append]; omega
    have hb4 := bTk_len d
    have hin : (0 : Int) ≤ ((A.flatMap bTk).length : Int) ∧ ((A.flatMap bTk).length : Int) < T.length := by omega
    have e1 : pE T ((A.flatMap bTk).length : Nat) = 0 := by
      unfold Df.pE
      rw [if_neg h80, if_pos hin, Int.toNat_natCast, hp]
      exact Df.ch_yes hok
    have e2 : (pT T ((A.flatMap bTk).length : Nat)).toNat = ((A ++ [d]).flatMap bTk).length := by
      unfold Df.pT
      rw [if_pos e1, Int.toNat_natCast, Int.toNat_natCast, hp, List.flatMap_append, List.length_append]
      simp
    have e3 : Bk.dnA T (A.flatMap bTk).length = d := by
      unfold Bk.dnA Df.pN Df.pL
      rw [if_pos e1, if_pos e1, Int.toNat_natCast, hp]
    have hk : (tk T (A.flatMap bTk).length).k ≠ 0 := by
      rw [(tk_but hT _).1]
      have := tk_drop (D.flatMap bTk ++ [(⟨0, ⟨#[]⟩, 0⟩ : Tok)]) (A.flatMap bTk).length 0
      rw [hdr, Nat.add_zero] at this
      rw [this]
      show (1 : Int) ≠ 0
      decide
    obtain ⟨q1, q2⟩ := put_end (A := A) (d := d) (B := B) (by rw [← e]; exact hm)
    rw [Bk.RD_go h80 A hk e1 (by rw [e3]; exact q1), e2, e3, q2]
    exact RD_all h80 hm hT B (A ++ [d]) (by rw [e]; simp)
theorem read_shown {D : List Bk.Dn} (hz : bsZ D = 0) : Bk.rE (bkT D) = 0 ∧ Bk.rD (bkT D) = D := by
  have hm : Bk.mayB D = true := by
    cases e : Bk.mayB D with
    | true => rfl
    | false => unfold bsZ at hz; rw [e] at hz; cases hz
  have hl : ¬ 2000 < (bkT D).length := by
    intro h
    unfold bsZ at hz; rw [if_pos hm, if_pos h] at hz; cases hz
  obtain ⟨T, hT, hS⟩ := cut_bks D 0 ((Bk.may_iff _).1 hm).2.1
  have hF : scF (bkT D) = 0 := by unfold Lex.scF; rw [if_neg hl, hS]; rfl
  have hTs : scT (bkT D) = T := by unfold Lex.scT; rw [if_neg hl, hS]
  have h80 := ck_scan hF
  have h := RD_all (T := scT (bkT D)) h80 hm (by rw [hTs]; exact hT) D [] rfl
  have h0 : Bk.RD (scT (bkT D)) 0 [] = (0, 0, D) := h
  unfold Bk.rE Bk.rD
  rw [if_neg (by rw [hF]; decide), if_neg (by rw [hF]; decide), h0]
  exact ⟨rfl, rfl⟩
end Go.Proofs.YtfobfpigbfepoaaDoor
namespace Go.Proofs.YtfobfpigbfepoaaDoor
open Go.ChangeShapes Go.WideShapes Go.ChangeAt Go.RowKit
open Lex (Tok)
theorem own2 : ownKnob Tryd.prog.godebug = none := by kernel_rfl
theorem laidOut2 : laidOutB Tryd.prog = true := by kernel_rfl
theorem rng_i64 {n : Int} (h : (Lit.int .i64 n).wf = true) : -9223372036854775808 ≤ n ∧ n ≤ 9223372036854775807 := by
  simp only [Lit.wf, Bool.and_eq_true, decide_eq_true_eq] at h
  exact h
theorem len_max {n : Nat} (h : n ≤ maxLen) : n ≤ 9223372036854775807 := by unfold maxLen at h; omega
end Go.Proofs.YtfobfpigbfepoaaDoor
namespace Go.Proofs.YtfobfpigbfepoaaDoor
open Go.ChangeShapes Go.WideShapes Go.ChangeAt Go.RowKit
open Df (Stp)
theorem row_of {α : Type} {f : α → List Value} {c : Nat} (hc : ∀ x, (f x).length = c) (h0 : 0 < c) {w : World} {b off : Nat} {L : List α}
    (each : ∀ q (h : q < L.length) r u, (f L[q])[r]? = some u → w.cell? ⟨b, off + (q * c + r), none⟩ = some u) : RowAt f w (some ⟨b, off, none⟩) L := by
  intro j u hu
  have hj : j < (L.flatMap f).length := by
    rcases Nat.lt_or_ge j (L.flatMap f).length with h | h
    · exact h
    · rw [List.getElem?_eq_none h] at hu; cases hu
  rw [flat_len hc] at hj
  have hr : j % c < c := Nat.mod_lt _ h0
  have hq : j / c < L.length := Nat.div_lt_of_lt_mul (by rw [Nat.mul_comm]; exact hj)
  have e : j = j / c * c + j % c := by rw [Nat.mul_comm]; exact (Nat.div_add_mod j c).symm
  rw [e, flat_get hc L (j / c) hq (j % c) hr] at hu
  have h := each (j / c) hq (j % c) u hu
  rw [← e] at h
  exact ⟨b, off, rfl, World.block_lt_of_cell? w _ h, h⟩
theorem open_rows {α : Type} [Inhabited α] {f : α → List Value} {c : Nat} (hc : ∀ x, (f x).length = c) (h0 : 0 < c) {In : α → Prop} {t e : TypeId} (ht : Tryd.prog.underlying t = some (.slice e)) (ce : Tryd.prog.cellsOf e = c)
    {H : Type} {enc : TypeId × Value → H} {W : World} {base : Nat} {sp : Nat → Bool} {held : Bool} {fuel : Nat} {a0 : Option Addr} {len0 cap0 : Nat} {x : DataW H × List MemPlace}
    (elem : ∀ (n : Nat) (cs : List Value) (y : DataW H × List MemPlace), cs.length = c → DataW.trod enc Tryd.prog W base sp held n e cs = some y → ∃ z : α, cs = f z ∧ In z)
    (hf : DataW.trod enc Tryd.prog W base sp held fuel t [.slice a0 len0 cap0] = some x) :
    ∃ L : List α, len0 = L.length ∧ RowAt f W a0 L ∧ L.length ≤ 9223372036854775807 ∧ ∀ y ∈ L, In y := by
  rcases Deep.open_slice ht hf with ⟨hcs, _⟩ | ⟨a, len, cap, m, n, D, Pl, hcs, _, hl, hm, hmm, _, hx⟩
  · simp at hcs
    obtain ⟨rfl, rfl, rfl⟩ := hcs
    exact ⟨[], rfl, RowAt.nil, by simp, by simp⟩
  · simp at hcs
    obtain ⟨rfl, rfl, rfl⟩ := hcs
    have hlm : len0 ≤ m := by rw [hmm]; split <;> omega
    have each : ∀ i, i < len0 → ∃ z : α, (∀ r u, (f z)[r]? = some u → W.cell? (a.add (i * c + r)) = some u) ∧ In z := by
      intro i hi
      obtain ⟨cs, h1, h2⟩ := hx i (by omega)
      rw [ce] at h1
      obtain ⟨_, hlen, hcell⟩ := World.cells?_some h1
      obtain ⟨z, rfl, hz⟩ := elem n cs _ hlen h2
      refine ⟨z, fun r u hu => ?_, hz⟩
      have hr : r < c := by
        rcases Nat.lt_or_ge r (f z).length with h | h
        · rw [hc] at h; exact h
        · rw [List.getElem?_eq_none h] at hu; cases hu
      have c0 := hcell r hr
      rw [Deep.add_add] at c0
      rw [c0, ← hu]
    obtain ⟨g, hg⟩ := Deep.choose_lt each
    unfold maxLen at hm
    refine ⟨(List.range len0).map g, by simp, ?_, by simp; omega, ?_⟩
    · cases len0 with
      | zero => simp; exact RowAt.nil
      | succ l =>
        obtain ⟨b, off, spot⟩ := a
        have h00 : 0 < (f (g 0)).length := by rw [hc]; exact h0
        have hspot : spot = none := by
          have := World.cell?_spot ((hg 0 (by omega)).1 0 _ (List.getElem?_eq_getElem h00))
          simpa [Addr.add] using this
        subst hspot
        refine row_of hc h0 fun q hq r u hu => ?_
        have hq' : q < l + 1 := by simpa using hq
        have := (hg q hq').1 r u (by simpa using hu)
        rwa [Addr.add_lit] at this
    · intro y hy
      obtain ⟨j, hj, rfl⟩ := List.mem_map.1 hy
      exact (hg j (by simpa using hj)).2
set_option maxRecDepth 100000 in
theorem trod_act {H : Type} {enc : TypeId × Value → H} {W : World} {base : Nat} {sp : Nat → Bool} {held : Bool} {fuel : Nat} {u v q : Value} {x : DataW H × List MemPlace}
    (h : DataW.trod enc Tryd.prog W base sp held fuel 66 [u, v, q] = some x) : ∃ k s n, u = .int .i64 k ∧ v = .string s ∧ q = .int .i64 n ∧ inI k ∧ s.size ≤ 9223372036854775807 ∧ inI n := by
  obtain ⟨y0, y1, y2, n, _, _, t0, t1, t2⟩ := Deep.trod_struct3 Tryd.underlying66 h
  have k0 : Tryd.prog.cellsOf 3 = 1 := by kernel_rfl
  have k1 : Tryd.prog.cellsOf 9 = 1 := by kernel_rfl
  have k2 : Tryd.prog.cellsOf 2 = 1 := by kernel_rfl
  simp [k0, k1, k2] at t0 t1 t2
  obtain ⟨z0, e0, _, r0⟩ := DataW.trod_int Tryd.underlying3 t0
  obtain ⟨z1, e1, _, r1⟩ := DataW.trod_string Tryd.underlying9 t1
  obtain ⟨z2, e2, _, r2⟩ := DataW.trod_int Tryd.underlying2 t2
  simp at e0 e1 e2
  subst e0 e1 e2
  unfold maxLen at r1
  exact ⟨z0, z1, z2, rfl, rfl, rfl, rng_i64 r0, by omega, rng_i64 r2⟩
theorem trod_struct5 {P : Program} {H : Type} {enc : TypeId × Value → H} {w : World} {base : Nat} {spare : Nat → Bool} {held : Bool} {t : TypeId} {f0 f1 f2 f3 f4 : Field} {fuel : Nat} {cs : List Value} {x : DataW H × List MemPlace} (ht : P.underlying t = some (.struct #[f0, f1, f2, f3, f4])) (h : DataW.trod enc P w base spare held fuel t cs = some x) :
    ∃ y0 y1 y2 y3 y4 n, DataW.trod enc P w base spare held n f0.type ((cs.drop f0.offset).take (P.cellsOf f0.type)) = some y0 ∧
      DataW.trod enc P w base spare held n f1.type ((cs.drop f1.offset).take (P.cellsOf f1.type)) = some y1 ∧ DataW.trod enc P w base spare held n f2.type ((cs.drop f2.offset).take (P.cellsOf f2.type)) = some y2 ∧
      DataW.trod enc P w base spare held n f3.type ((cs.drop f3.offset).take (P.cellsOf f3.type)) = some y3 ∧ DataW.trod enc P w base spare held n f4.type ((cs.drop f4.offset).take (P.cellsOf f4.type)) = some y4 := by
  obtain ⟨xs, n, _, rfl, hl, hlen, hf⟩ := DataW.trod_struct ht h
  match xs, hlen with
  | [y0, y1, y2, y3, y4], _ => exact ⟨y0, y1, y2, y3, y4, n, by simpa using hf 0 f0 rfl, by simpa using hf 1 f1 rfl, by simpa using hf 2 f2 rfl, by simpa using hf 3 f3 rfl, by simpa using hf 4 f4 rfl⟩
set_option maxRecDepth 100000 in
theorem trod_stp {H : Type} {enc : TypeId × Value → H} {W : World} {base : Nat} {sp : Nat → Bool} {held : Bool} (n : Nat) (cs : List Value) (y : DataW H × List MemPlace) (hl : cs.length = 7)
    (h : DataW.trod enc Tryd.prog W base sp held n 68 cs = some y) : ∃ z : Stp, cs = stpC z ∧ inS z := by
  match cs, hl with
  | [v0, v1, v2, v3, v4, v5, v6], _ =>
    obtain ⟨y0, y1, y2, y3, y4, n, t0, t1, t2, t3, t4⟩ := trod_struct5 Tryd.underlying68 h
    have k0 : Tryd.prog.cellsOf 3 = 1 := by kernel_rfl
    have k1 : Tryd.prog.cellsOf 9 = 1 := by kernel_rfl
    have k3 : Tryd.prog.cellsOf 66 = 3 := by kernel_rfl
    simp [k0, k1, k3] at t0 t1 t2 t3 t4
    obtain ⟨o, e1, _, r1⟩ := DataW.trod_int Tryd.underlying3 t1
    obtain ⟨u, e2, _, r2⟩ := DataW.trod_string Tryd.underlying9 t2
    obtain ⟨ty, e3, _, r3⟩ := DataW.trod_int Tryd.underlying3 t3
    obtain ⟨wt, e4, _, r4⟩ := DataW.trod_int Tryd.underlying3 t4
    simp at e1 e2 e3 e4
    subst e1 e2 e3 e4
    obtain ⟨k, a, m, rfl, rfl, rfl, h1, h2, h3⟩ := trod_act t0
    unfold maxLen at r2
    exact ⟨⟨k, a, m, o, u, ty, wt⟩, rfl, h2, (by show u.size ≤ _; omega), h1, h3, rng_i64 r1, rng_i64 r3, rng_i64 r4⟩
theorem trod_struct2 {P : Program} {H : Type} {enc : TypeId × Value → H} {w : World} {base : Nat} {spare : Nat → Bool} {held : Bool} {t : TypeId} {f0 f1 : Field} {fuel : Nat} {cs : List Value} {x : DataW H × List MemPlace} (ht : P.underlying t = some (.struct #[f0, f1])) (h : DataW.trod enc P w base spare held fuel t cs = some x) :
    ∃ y0 y1 n, DataW.trod enc P w base spare held n f0.type ((cs.drop f0.offset).take (P.cellsOf f0.type)) = some y0 ∧ DataW.trod enc P w base spare held n f1.type ((cs.drop f1.offset).take (P.cellsOf f1.type)) = some y1 := by
  obtain ⟨xs, n, _, rfl, hl, hlen, hf⟩ := DataW.trod_struct ht h
  match xs, hlen with
  | [y0, y1], _ => exact ⟨y0, y1, n, by simpa using hf 0 f0 rfl, by simpa using hf 1 f1 rfl⟩
set_option maxRecDepth 100000 in
theorem trod_dm {H : Type} {enc : TypeId × Value → H} {W : World} {base : Nat} {sp : Nat → Bool} {held : Bool} (n : Nat) (cs : List Value) (y : DataW H × List MemPlace) (hl : cs.length = 2)
    (h : DataW.trod enc Tryd.prog W base sp held n 37 cs = some y) : ∃ z : Dm, cs = dmC z ∧ (StpsAt W z.ad z.L ∧ inD z) := by
  match cs, hl with
  | [v0, v1], _ =>
    obtain ⟨y0, y1, n, t0, t1⟩ := trod_struct2 Tryd.underlying37 h
    have k0 : Tryd.prog.cellsOf 9 = 1 := by kernel_rfl
    have k1 : Tryd.prog.cellsOf 35 = 1 := by kernel_rfl
    simp [k0, k1] at t0 t1
    obtain ⟨nm, e0, _, r0⟩ := DataW.trod_string Tryd.underlying9 t0
    simp at e0
    subst e0
    have s1 : ∃ a l c, v1 = .slice a l c := by
      rcases Deep.open_slice Tryd.underlying35 t1 with ⟨hcs, _⟩ | ⟨a, len, cap, _, _, _, _, hcs, _⟩
      · simp at hcs; exact ⟨_, _, _, hcs⟩
      · simp at hcs; exact ⟨_, _, _, hcs⟩
    obtain ⟨b, lb, cb, rfl⟩ := s1
    have hiA : Inhabited Stp := ⟨⟨0, ⟨#[]⟩, 0, 0, ⟨#[]⟩, 0, 0⟩⟩
    obtain ⟨L, rfl, h1, h2, h3⟩ := open_rows stpC_len (by decide) Tryd.underlying35 (by kernel_rfl) trod_stp t1
    unfold maxLen at r0
    exact ⟨⟨nm, b, cb, L⟩, rfl, h1, (by show nm.size ≤ _; omega), h2, h3⟩
set_option maxRecDepth 100000 in
theorem open_defs {H : Type} {enc : TypeId × Value → H} {W : World} {base : Nat} {v : Value} {d : DataW H} {ps : List MemPlace}
    (hok : Value.okWide Tryd.prog W .any base 22 v) (h : DataW.Trod enc Tryd.prog W 0 (fun _ => true) true 22 v d ps) :
    ∃ ad cap, ∃ D : List Dm, v = .slice ad D.length cap ∧ BkAt W ad D ∧ D.length ≤ 9223372036854775807 ∧ (ad = none → cap = 0) ∧ D.length ≤ cap ∧ cap ≤ 9223372036854775807 := by
  obtain ⟨a0, len0, cap0, rfl⟩ := okWide_slice Tryd.underlying22 hok
  obtain ⟨fuel, hf⟩ := h
  simp only [Value.cells] at hf
  have hiA : Inhabited Dm := ⟨⟨⟨#[]⟩, none, 0, []⟩⟩
  obtain ⟨D, rfl, h1, h2, h3⟩ := open_rows dmC_len (by decide) Tryd.underlying22 (by kernel_rfl) (trod_dm (W := W)) hf
  refine ⟨a0, cap0, D, rfl, ⟨h1, fun d hd => (h3 d hd).1, fun d hd => (h3 d hd).2⟩, h2, ?_⟩
  rcases Deep.open_slice Tryd.underlying22 hf with ⟨hcs, _⟩ | ⟨a, len, cap, m, n, D', Pl, hcs, _, hl, hm, hmm, _, hx⟩
  · simp at hcs
    obtain ⟨rfl, e, rfl⟩ := hcs
    exact ⟨fun _ => rfl, by simp [e], by omega⟩
  · simp at hcs
    obtain ⟨rfl, e, rfl⟩ := hcs
    unfold maxLen at hm
    exact ⟨(fun e => by cases e), by omega, by omega⟩
end Go.Proofs.YtfobfpigbfepoaaDoor
