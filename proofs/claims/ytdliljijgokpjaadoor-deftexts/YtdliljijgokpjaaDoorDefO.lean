/- Plain mathematics of definitions' texts: what is written is read as it was. -/
import Derived.Test.YtdliljijgokpjaaDoorDefN
namespace Go.Proofs.YtdliljijgokpjaaDoor
open Df (Stp St tk isT ownB askB stpB defB chE wk kw sm opt fin one stps prs Gd pE pA pT pN pL)
open Lex (Tok S mayB numB sigB vl valE okT endT gap butL scT scF scA ckE)
open _root_.Go.Proofs.YtdliljijgokpjaaDoor.Act (nameB actB digB letB sgnB)

/- places are of no matter -/
theorem tk_but {T U : List Tok} (h : butL T U) (i : Nat) : (tk T i).k = (tk U i).k ∧ (tk T i).t = (tk U i).t := by
  have hl := Lex.butL_len T U h
  by_cases hi : i < T.length
  · rw [Df.tk_get T i hi, Df.tk_get U i (by omega)]
    exact Lex.butL_get T U h i hi (by omega)
  · rw [Df.tk_out T i (by omega), Df.tk_out U i (by omega)]
    exact ⟨rfl, rfl⟩
theorem isT_but {T U : List Tok} (h : butL T U) (i : Nat) (k : Int) (s : ByteArray) : isT (tk T i) k s = isT (tk U i) k s := by
  unfold Df.isT; rw [(tk_but h i).1, (tk_but h i).2]
theorem opt_but {T U : List Tok} (h : butL T U) (i : Nat) (wd : ByteArray) (n : Int) : opt T i wd n = opt U i wd n := by
  unfold Df.opt; rw [isT_but h, (tk_but h (i + 1)).1, (tk_but h (i + 1)).2]
theorem fin_but {T U : List Tok} (h : butL T U) (x : Nat × Option Int) (f : Int → Stp) : fin T x f = fin U x f := by
  unfold Df.fin; rw [isT_but h]
theorem one_but {T U : List Tok} (h : butL T U) (i : Nat) : one T i = one U i := by
  unfold Df.one
  rw [isT_but h, (tk_but h i).1, (tk_but h i).2, (tk_but h (i + 1)).1, (tk_but h (i + 1)).2, (tk_but h (i + 2)).1, (tk_but h (i + 2)).2, opt_but h, opt_but h, fin_but h, fin_but h]
theorem stps_but {T U : List Tok} (h : butL T U) : ∀ (f i : Nat) (L : List Stp), stps T f i L = stps U f i L := by
  intro f
  induction f with
  | zero => intro i L; rfl
  | succ f ih =>
    intro i L
    unfold Df.stps
    rw [isT_but h, one_but h]
    split
    · rfl
    · rcases one U i with ⟨j, o⟩
      cases o with
      | none => rfl
      | some s => exact ih j (L ++ [s])
theorem prs_but {T U : List Tok} (h : butL T U) (i : Nat) : prs T i = prs U i := by
  unfold Df.prs
  rw [isT_but h, isT_but h, (tk_but h (i + 1)).1, (tk_but h (i + 1)).2, stps_but h, Lex.butL_len T U h]

/- the tokens of a definition are read as it -/
theorem tk_drop (T : List Tok) (i j : Nat) : tk T (i + j) = tk (T.drop i) j := by
  unfold Df.tk
  rw [List.getD_eq_getElem?_getD, List.getD_eq_getElem?_getD, List.getElem?_drop]
theorem one_at {T : List Tok} {i : Nat} {s : Stp} {R : List Tok} (h : stpB s = true) (hd : T.drop i = sTk s ++ R) : one T i = (i + 6, some s) := by
  have g0 : tk T i = tk (sTk s ++ R) 0 := by have := tk_drop T i 0; rw [hd] at this; exact this
  have g : ∀ j, tk T (i + j) = tk (sTk s ++ R) j := fun j => by rw [tk_drop, hd]
  have g1 := g 1
  have g2 := g 2
  have g3 := g 3
  have g4 : tk T (i + 3 + 1) = tk (sTk s ++ R) 4 := g 4
  have g5 : tk T (i + 3 + 2) = tk (sTk s ++ R) 5 := g 5
  unfold sTk at g0 g1 g2 g3 g4 g5
  cases hk : askB s with
  | true =>
    obtain ⟨n1, q1, q2, q3, q4, o1, o2, v1, v2⟩ := (Df.ask_iff s).1 hk
    rw [hk, if_pos rfl] at g0 g1 g2 g3 g4 g5
    have t0 : tk T i = ⟨1, Df.wAsk, 0⟩ := g0
    have t1 : tk T (i + 1) = ⟨2, dg s.o, 0⟩ := g1
    have t2 : tk T (i + 2) = ⟨1, s.u, 0⟩ := g2
    have t3 : tk T (i + 3) = ⟨1, Df.wWait, 0⟩ := g3
    have t4 : tk T (i + 3 + 1) = ⟨2, dg s.v, 0⟩ := g4
    have t5 : tk T (i + 3 + 2) = ⟨3, Df.gSemi, 0⟩ := g5
    have ho : opt T (i + 3) Df.wWait 20 = (i + 3 + 2, some s.v) := by
      unfold Df.opt
      rw [t3, if_pos (by decide), t4, if_pos rfl, dg_sm s.v (by omega) (by omega)]
    unfold Df.one
    rw [t0, if_pos (by decide), t1, if_pos rfl, t2, if_pos rfl, ho]
    unfold Df.fin
    simp only
    rw [t5, if_pos (by decide), dg_sm s.o o1 (by omega)]
    obtain ⟨k, a, n, o, u, y, v⟩ := s
    simp only at q1 q2 q3 q4
    subst q1 q2 q3 q4
    rfl
  | false =>
    obtain ⟨p1, ab, p3, p4, y1, y2⟩ := (Df.own_iff s).1 (own_of h hk)
    obtain ⟨⟨k1, k2⟩, nb, n1, n2⟩ := (Act.act_iff s.k s.a s.n).1 ab
    obtain ⟨w1, w2, w3, _⟩ := wk_name s.k k1 k2
    rw [hk, if_neg (by decide)] at g0 g1 g2 g3 g4 g5
    have t0 : tk T i = ⟨1, wk s.k, 0⟩ := g0
    have t1 : tk T (i + 1) = ⟨1, s.a, 0⟩ := g1
    have t2 : tk T (i + 2) = ⟨2, dg s.n, 0⟩ := g2
    have t3 : tk T (i + 3) = ⟨1, Df.wTries, 0⟩ := g3
    have t4 : tk T (i + 3 + 1) = ⟨2, dg s.y, 0⟩ := g4
    have t5 : tk T (i + 3 + 2) = ⟨3, Df.gSemi, 0⟩ := g5
    have ho : opt T (i + 3) Df.wTries 1 = (i + 3 + 2, some s.y) := by
      unfold Df.opt
      rw [t3, if_pos (by decide), t4, if_pos rfl, dg_sm s.y (by omega) (by omega)]
    have hna : ¬ isT ⟨1, wk s.k, 0⟩ 1 Df.wAsk = true := fun e => w2 ((Df.isT_iff _ _ _).1 e).2
    unfold Df.one
    rw [t0, if_neg hna, t1, if_pos ⟨rfl, by rw [w3]; omega⟩, if_pos rfl, t2, if_pos rfl, ho]
    unfold Df.fin
    simp only
    rw [t5, if_pos (by decide), w3, dg_val s.n (by omega) (by omega)]
    obtain ⟨k, a, n, o, u, y, v⟩ := s
    simp only at p1 p3 p4
    subst p1 p3 p4
    rfl
theorem sTk_len (s : Stp) : (sTk s).length = 6 := by unfold sTk; split <;> rfl
theorem sTk_shut (s : Stp) (R : List Tok) : isT (tk (sTk s ++ R) 0) 3 Df.gShut = false := by
  unfold sTk
  split <;> rfl
theorem stps_at : ∀ (M : List Stp) (T : List Tok) (f i : Nat) (L : List Stp), (∀ s ∈ M, stpB s = true) → M.length < f → T.drop i = M.flatMap sTk ++ [⟨3, Df.gShut, 0⟩, ⟨0, ⟨#[]⟩, 0⟩] → stps T f i L = (i + 6 * M.length + 1, some (L ++ M)) := by
  intro M
  induction M with
  | nil =>
    intro T f i L _ hf hd
    cases f with
    | zero => simp at hf
    | succ f =>
      have g0 : tk T i = ⟨3, Df.gShut, 0⟩ := by have := tk_drop T i 0; rw [hd] at this; exact this
      unfold Df.stps
      rw [g0, if_pos (by decide)]; simp
  | cons s t ih =>
    intro T f i L hM hf hd
    cases f with
    | zero => simp at hf
    | succ f =>
      rw [List.flatMap_cons, List.append_assoc] at hd
      have g0 : tk T i = tk (sTk s ++ (t.flatMap sTk ++ [⟨3, Df.gShut, 0⟩, ⟨0, ⟨#[]⟩, 0⟩])) 0 := by have := tk_drop T i 0; rw [hd] at this; exact this
      unfold Df.stps
      rw [g0, sTk_shut, if_neg (by decide), one_at (hM s (by simp)) hd]
      simp only
      have hd2 : T.drop (i + 6) = t.flatMap sTk ++ [⟨3, Df.gShut, 0⟩, ⟨0, ⟨#[]⟩, 0⟩] := by
        rw [← List.drop_drop, hd, ← sTk_len s, List.drop_left]
      rw [ih T f (i + 6) (L ++ [s]) (fun x hx => hM x (by simp [hx])) (by simpa using hf) hd2]
      simp only [List.length_cons, List.append_assoc, List.singleton_append, Prod.mk.injEq, and_true]
      omega
theorem dTk_len (nm : ByteArray) (L : List Stp) : (dTk nm L).length = 6 * L.length + 5 := by
  have : (L.flatMap sTk).length = 6 * L.length := by
    induction L with
    | nil => rfl
    | cons s t ih => rw [List.flatMap_cons, List.length_append, ih, sTk_len, List.length_cons]; omega
  unfold dTk
  simp [this]
theorem prs_at (nm : ByteArray) (L : List Stp) (hL : ∀ s ∈ L, stpB s = true) : prs (dTk nm L) 0 = (6 * L.length + 4, some (nm, L)) := by
  unfold Df.prs
  have t0 : tk (dTk nm L) 0 = ⟨1, Df.wSaga, 0⟩ := rfl
  have t1 : tk (dTk nm L) (0 + 1) = ⟨1, nm, 0⟩ := rfl
  have t2 : tk (dTk nm L) (0 + 2) = ⟨3, Df.gOpen, 0⟩ := rfl
  rw [t0, if_pos (by decide), t1, if_pos rfl, t2, if_pos (by decide), stps_at L (dTk nm L) _ (0 + 3) [] hL (by rw [dTk_len]; omega) rfl]
  simp only [List.nil_append, Prod.mk.injEq, and_true]
  omega
theorem dTk_last (nm : ByteArray) (L : List Stp) : (tk (dTk nm L) (6 * L.length + 4)).k = 0 := by
  have hl := dTk_len nm L
  rw [Df.tk_get _ _ (by omega)]
  have e : dTk nm L = (⟨1, Df.wSaga, 0⟩ :: ⟨1, nm, 0⟩ :: ⟨3, Df.gOpen, 0⟩ :: (L.flatMap sTk ++ [⟨3, Df.gShut, 0⟩])) ++ [⟨0, ⟨#[]⟩, 0⟩] := by simp [dTk]
  have hl2 : ((⟨1, Df.wSaga, 0⟩ :: ⟨1, nm, 0⟩ :: ⟨3, Df.gOpen, 0⟩ :: (L.flatMap sTk ++ [⟨3, Df.gShut, 0⟩]) : List Tok)).length = 6 * L.length + 4 := by
    have := congrArg List.length e
    rw [hl, List.length_append] at this
    simp only [List.length_singleton] at this
    omega
  simp only [e]
  rw [List.getElem_append_right (by omega)]
  simp

/- how long a text is -/
theorem ln_len (a b c d e : ByteArray) : (ln [a, b, c, d, e]).length = a.size + b.size + c.size + d.size + e.size + 8 := by
  simp [ln]; omega
theorem name_le {s : ByteArray} (h : nameB s = true) : s.size ≤ 16 := (Act.name_pos h).2
theorem stT_len {s : Stp} (h : stpB s = true) : (stT s).length ≤ 60 := by
  unfold stT stW
  cases hk : askB s with
  | true =>
    obtain ⟨n1, _, _, _, _, o1, o2, v1, v2⟩ := (Df.ask_iff s).1 hk
    simp only [if_true]
    rw [ln_len]
    have := dg_size s.o 1 (by omega)
    have := dg_size s.v 1 (by omega)
    have := name_le n1
    have : Df.wAsk.size = 3 := by decide
    have : Df.wWait.size = 4 := by decide
    omega
  | false =>
    obtain ⟨_, ab, _, _, y1, y2⟩ := (Df.own_iff s).1 (own_of h hk)
    obtain ⟨⟨k1, k2⟩, nb, n1, n2⟩ := (Act.act_iff s.k s.a s.n).1 ab
    simp only [Bool.false_eq_true, if_false]
    rw [ln_len]
    have := dg_size s.n 15 (by omega)
    have := dg_size s.y 1 (by omega)
    have := name_le nb
    have := (wk_name s.k k1 k2).2.2.2
    have : Df.wTries.size = 5 := by decide
    omega
theorem stTs_len : ∀ (L : List Stp), (∀ s ∈ L, stpB s = true) → (L.flatMap stT).length ≤ 60 * L.length := by
  intro L
  induction L with
  | nil => intro _; simp
  | cons s t ih =>
    intro h
    have h1 := stT_len (h s (by simp))
    have h2 := ih (fun x hx => h x (by simp [hx]))
    rw [List.flatMap_cons, List.length_append, List.length_cons]; omega
theorem shT_len {nm : ByteArray} {L : List Stp} (h : defB nm L = true) : (shT nm L).length ≤ 600 := by
  obtain ⟨h1, h2, h3, h4⟩ := (Df.def_iff nm L).1 h
  have := stTs_len L h4
  have := name_le h1
  have hz : nm.data.toList.length = nm.size := by simp
  unfold shT shH
  simp only [List.length_append, List.length_cons, List.length_nil, hz]
  omega
/- what Scan answers of a definition's text -/
theorem scan_def {nm : ByteArray} {L : List Stp} (h : defB nm L = true) : scF (shT nm L) = 0 ∧ butL (scT (shT nm L)) (dTk nm L) := by
  have hl := shT_len h
  obtain ⟨h1, h2, h3, h4⟩ := (Df.def_iff nm L).1 h
  obtain ⟨T, hT, hS⟩ := cut_def h1 h4
  unfold Lex.scF Lex.scT
  rw [if_neg (show ¬ 2000 < (shT nm L).length by omega), if_neg (show ¬ 2000 < (shT nm L).length by omega), hS]
  exact ⟨rfl, hT⟩
end Go.Proofs.YtdliljijgokpjaaDoor
