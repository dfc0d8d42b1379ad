/- Plain mathematics of definitions' texts: what is written is read. -/
import Derived.Test.YtdliljijgokpjaaDoorDefM
import Derived.Test.YtdliljijgokpjaaDoorLexU
import Derived.Lib.ItoaNum
namespace Go.Proofs.YtdliljijgokpjaaDoor
open Df (Stp St tk isT ownB askB stpB defB chE wk kw sm opt fin one stps prs Gd)
open Lex (Tok S mayB numB sigB vl valE okT endT gap butL scT scF scA ckE)
open _root_.Go.Proofs.YtdliljijgokpjaaDoor.Act (nameB actB digB letB sgnB)

def dg (n : Int) : ByteArray := ⟨(Lib.decDigits n.toNat).toArray⟩
def stW (s : Stp) : List ByteArray := if askB s = true then [Df.wAsk, dg s.o, s.u, Df.wWait, dg s.v] else [wk s.k, s.a, dg s.n, Df.wTries, dg s.y]
def ln (xs : List ByteArray) : List UInt8 := match xs with
  | [a, b, c, d, e] => 32 :: 32 :: (a.data.toList ++ 32 :: (b.data.toList ++ 32 :: (c.data.toList ++ 32 :: (d.data.toList ++ 32 :: (e.data.toList ++ [59, 10])))))
  | _ => []
def stT (s : Stp) : List UInt8 := ln (stW s)
def shH (nm : ByteArray) : List UInt8 := 115 :: 97 :: 103 :: 97 :: 32 :: (nm.data.toList ++ [32, 123, 10])
def shT (nm : ByteArray) (L : List Stp) : List UInt8 := shH nm ++ (L.flatMap stT ++ [125, 10])

/- decimal digits -/
theorem of48 (m : Nat) (h : m < 10) : (UInt8.ofNat (48 + m)).toNat = 48 + m := by simp; omega
theorem digs_len (n : Nat) (k : Nat) (h : n < 10 ^ (k + 1)) : (Lib.decDigits n).length ≤ k + 1 := by
  induction k generalizing n with
  | zero => rw [Lib.decDigits, dif_pos (by simpa using h)]; simp
  | succ k ih =>
    rw [Lib.decDigits]
    split
    · simp
    · have := ih (n / 10) (by rw [Nat.div_lt_iff_lt_mul (by omega)]; rw [Nat.pow_succ] at h; exact h)
      simp; omega
theorem digs_all (n : Nat) : ∀ b ∈ Lib.decDigits n, digB b = true := by
  induction n using Nat.strongRecOn with
  | _ n ih =>
    intro b hb
    have one : ∀ m, m < 10 → digB (UInt8.ofNat (48 + m)) = true := by
      intro m hm
      unfold Act.digB
      rw [of48 m hm]
      simp; omega
    rw [Lib.decDigits] at hb
    split at hb
    · rename_i h
      rw [List.mem_singleton] at hb
      rw [hb]; exact one n h
    · rcases List.mem_append.1 hb with hb | hb
      · exact ih (n / 10) (by omega) b hb
      · rw [List.mem_singleton] at hb
        rw [hb]; exact one (n % 10) (by omega)
theorem digs_pos (n : Nat) : 1 ≤ (Lib.decDigits n).length := by
  rw [Lib.decDigits]
  split <;> simp
theorem digs_head (n : Nat) (h1 : 1 ≤ n) : Lex.zeroB (Lib.decDigits n) = false := by
  induction n using Nat.strongRecOn with
  | _ n ih =>
    rw [Lib.decDigits]
    split
    · rename_i h
      show decide (((UInt8.ofNat (48 + n)).toNat : Int) = 48) = false
      rw [of48 n h]
      simp; omega
    · rename_i h
      have := ih (n / 10) (by omega) (by omega)
      have hp := digs_pos (n / 10)
      cases hc : Lib.decDigits (n / 10) with
      | nil => rw [hc] at hp; simp at hp
      | cons b t => rw [hc] at this; exact this
theorem digs_vl (n : Nat) : vl (Lib.decDigits n) 0 = n := by
  induction n using Nat.strongRecOn with
  | _ n ih =>
    rw [Lib.decDigits]
    split
    · rename_i h
      show vl [] _ = _
      simp only [Lex.vl]
      rw [of48 n h]
      omega
    · rename_i h
      rw [Lex.vl_snoc, ih (n / 10) (by omega), of48 (n % 10) (by omega)]
      omega
theorem dg_list (n : Int) : (dg n).data.toList = Lib.decDigits n.toNat := by simp [dg]
theorem dg_size (n : Int) (k : Nat) (h : n.toNat < 10 ^ (k + 1)) : (dg n).size ≤ k + 1 := by
  have := digs_len n.toNat k h
  have e : (dg n).size = (dg n).data.toList.length := by simp
  rw [e, dg_list]; exact this
theorem dg_num (n : Int) (h : n.toNat < 10 ^ 16) : numB (dg n) = true := by
  have h1 := dg_size n 15 h
  have e : (dg n).size = (dg n).data.toList.length := by simp
  have h2 := digs_pos n.toNat
  unfold Lex.numB
  rw [decide_eq_true (by rw [e, dg_list]; exact h2), decide_eq_true h1, dg_list]
  have h3 : (Lib.decDigits n.toNat).all digB = true := List.all_eq_true.2 (digs_all n.toNat)
  rw [h3]
  by_cases h0 : n.toNat = 0
  · have : (dg n).size = 1 := by rw [e, dg_list, h0, Lib.decDigits, dif_pos (by omega)]; rfl
    rw [decide_eq_true this]; rfl
  · rw [digs_head n.toNat (by omega)]; simp
theorem dg_val (n : Int) (h0 : 0 ≤ n) (h : n.toNat < 10 ^ 16) : valE 2 (dg n) = n := by
  unfold Lex.valE
  rw [if_pos ⟨rfl, dg_num n h⟩, dg_list, digs_vl]
  omega
theorem dg_sm (n : Int) (h0 : 0 ≤ n) (h : n < 100) : sm (dg n) = n := by
  have h9 := dg_size n 8 (by omega)
  unfold Df.sm
  rw [if_neg (by omega), dg_val n h0 (by omega)]

/- words of a step that may be -/
theorem may1 {s : ByteArray} (h : nameB s = true) : mayB 1 s = true := by unfold Lex.mayB; rw [if_pos rfl]; exact h
theorem may2 {s : ByteArray} (h : numB s = true) : mayB 2 s = true := by unfold Lex.mayB; rw [if_neg (by decide), if_pos rfl]; exact h
theorem wk_name (k : Int) (h1 : 1 ≤ k) (h2 : k ≤ 4) : nameB (wk k) = true ∧ wk k ≠ Df.wAsk ∧ kw (wk k) = k ∧ (wk k).size ≤ 7 := by
  rcases (by omega : k = 1 ∨ k = 2 ∨ k = 3 ∨ k = 4) with rfl | rfl | rfl | rfl <;> exact ⟨by decide, by decide, by decide, by decide⟩
def sTk (s : Stp) : List Tok := if askB s = true then [⟨1, Df.wAsk, 0⟩, ⟨2, dg s.o, 0⟩, ⟨1, s.u, 0⟩, ⟨1, Df.wWait, 0⟩, ⟨2, dg s.v, 0⟩, ⟨3, Df.gSemi, 0⟩] else [⟨1, wk s.k, 0⟩, ⟨1, s.a, 0⟩, ⟨2, dg s.n, 0⟩, ⟨1, Df.wTries, 0⟩, ⟨2, dg s.y, 0⟩, ⟨3, Df.gSemi, 0⟩]
theorem own_of {s : Stp} (h : stpB s = true) (hk : askB s = false) : ownB s = true := by unfold Df.stpB at h; rw [hk] at h; simpa using h

/- a line of five words -/
structure W5 (a b c d e : ByteArray) (k1 k2 k4 : Int) : Prop where
  a : mayB 1 a = true
  b : mayB k1 b = true
  c : mayB k2 c = true
  d : mayB 1 d = true
  e : mayB k4 e = true
theorem cut_one (k : Int) (x : ByteArray) (r : List UInt8) (a : Nat) (h : mayB k x = true) (hr : gap r = true) : S (x.data.toList ++ r) a = (⟨k, x, a⟩ :: (S r (a + x.size)).1, (S r (a + x.size)).2) := by
  obtain ⟨b, u, h1, h2, h3, h4, h5, h6, h7⟩ := Lex.may_cut k x r h hr
  have hd : (b :: u).drop (Lex.tl (b :: u)) = r := by
    rw [h4, ← h1]
    have hl : x.data.toList.length = x.size := by simp
    rw [← hl, List.drop_left]
  rw [h1, Lex.S_tok u a h2 h3 (by rw [h5, h6]; exact h7), hd, h5, h6, h4]
theorem gap32 (r : List UInt8) : gap (32 :: r) = true := by simp [Lex.gap]; decide
theorem gap10 (r : List UInt8) : gap (10 :: r) = true := by simp [Lex.gap]; decide
theorem gap59 (r : List UInt8) : gap (59 :: r) = true := by simp [Lex.gap]; decide
theorem cut_line {a b c d e : ByteArray} {k1 k2 k4 : Int} (h : W5 a b c d e k1 k2 k4) (r : List UInt8) (p : Nat) : ∃ (T : List Tok) (p' : Nat), butL T [⟨1, a, 0⟩, ⟨k1, b, 0⟩, ⟨k2, c, 0⟩, ⟨1, d, 0⟩, ⟨k4, e, 0⟩, ⟨3, Df.gSemi, 0⟩] ∧ S (ln [a, b, c, d, e] ++ r) p = (T ++ (S r p').1, (S r p').2) := by
  have e1 : ln [a, b, c, d, e] ++ r = 32 :: 32 :: (a.data.toList ++ 32 :: (b.data.toList ++ 32 :: (c.data.toList ++ 32 :: (d.data.toList ++ 32 :: (e.data.toList ++ (59 :: (10 :: r))))))) := by simp [ln]
  rw [e1, Lex.S_blank _ _ (by decide), Lex.S_blank _ _ (by decide), cut_one 1 a _ _ h.a (gap32 _), Lex.S_blank _ _ (by decide), cut_one k1 b _ _ h.b (gap32 _), Lex.S_blank _ _ (by decide), cut_one k2 c _ _ h.c (gap32 _), Lex.S_blank _ _ (by decide), cut_one 1 d _ _ h.d (gap32 _), Lex.S_blank _ _ (by decide), cut_one k4 e _ _ h.e (gap59 _)]
  have e2 : ∀ q, S (59 :: (10 :: r)) q = (⟨3, Df.gSemi, q⟩ :: (S r (q + 1 + 1)).1, (S r (q + 1 + 1)).2) := by
    intro q
    have := cut_one 3 Df.gSemi (10 :: r) q (by decide) (gap10 _)
    rw [show Df.gSemi.data.toList ++ (10 :: r) = 59 :: (10 :: r) from rfl] at this
    rw [this, Lex.S_blank _ _ (by decide)]; rfl
  rw [e2]
  dsimp only
  refine ⟨[_, _, _, _, _, _], _, ?_, rfl⟩
  exact ⟨⟨rfl, rfl⟩, ⟨rfl, rfl⟩, ⟨rfl, rfl⟩, ⟨rfl, rfl⟩, ⟨rfl, rfl⟩, ⟨rfl, rfl⟩, trivial⟩
theorem cut_step {s : Stp} (h : stpB s = true) (r : List UInt8) (p : Nat) : ∃ (T : List Tok) (p' : Nat), butL T (sTk s) ∧ S (stT s ++ r) p = (T ++ (S r p').1, (S r p').2) := by
  unfold sTk stT stW
  cases hk : askB s with
  | true =>
    obtain ⟨n1, _, _, _, _, o1, o2, v1, v2⟩ := (Df.ask_iff s).1 hk
    simp only [if_true]
    exact cut_line ⟨by decide, may2 (dg_num _ (by omega)), may1 n1, by decide, may2 (dg_num _ (by omega))⟩ r p
  | false =>
    obtain ⟨_, ab, _, _, y1, y2⟩ := (Df.own_iff s).1 (own_of h hk)
    obtain ⟨⟨k1, k2⟩, nb, n1, n2⟩ := (Act.act_iff s.k s.a s.n).1 ab
    simp only [Bool.false_eq_true, if_false]
    exact cut_line ⟨may1 (wk_name s.k k1 k2).1, may1 nb, may2 (dg_num _ (by omega)), by decide, may2 (dg_num _ (by omega))⟩ r p
theorem butL_app : ∀ (A B C D : List Tok), butL A B → butL C D → butL (A ++ C) (B ++ D) := by
  intro A
  induction A with
  | nil => intro B C D h1 h2; cases B with
    | nil => exact h2
    | cons y u => exact h1.elim
  | cons x t ih => intro B C D h1 h2; cases B with
    | nil => exact h1.elim
    | cons y u => exact ⟨h1.1, ih u C D h1.2 h2⟩
theorem cut_steps : ∀ (L : List Stp) (r : List UInt8) (p : Nat), (∀ s ∈ L, stpB s = true) → ∃ (T : List Tok) (p' : Nat), butL T (L.flatMap sTk) ∧ S (L.flatMap stT ++ r) p = (T ++ (S r p').1, (S r p').2) := by
  intro L
  induction L with
  | nil => intro r p _; exact ⟨[], p, trivial, rfl⟩
  | cons s t ih =>
    intro r p h
    rw [List.flatMap_cons, List.flatMap_cons, List.append_assoc]
    obtain ⟨T1, p1, h1, e1⟩ := cut_step (h s (by simp)) (t.flatMap stT ++ r) p
    obtain ⟨T2, p2, h2, e2⟩ := ih r p1 (fun x hx => h x (by simp [hx]))
    refine ⟨T1 ++ T2, p2, butL_app _ _ _ _ h1 h2, ?_⟩
    rw [e1, e2, List.append_assoc]
def dTk (nm : ByteArray) (L : List Stp) : List Tok := ⟨1, Df.wSaga, 0⟩ :: ⟨1, nm, 0⟩ :: ⟨3, Df.gOpen, 0⟩ :: (L.flatMap sTk ++ [⟨3, Df.gShut, 0⟩, ⟨0, ⟨#[]⟩, 0⟩])
theorem cut_def {nm : ByteArray} {L : List Stp} (hn : nameB nm = true) (hL : ∀ s ∈ L, stpB s = true) : ∃ T : List Tok, butL T (dTk nm L) ∧ S (shT nm L) 0 = (T, none) := by
  have e1 : shT nm L = Df.wSaga.data.toList ++ 32 :: (nm.data.toList ++ 32 :: (Df.gOpen.data.toList ++ 10 :: (L.flatMap stT ++ (Df.gShut.data.toList ++ 10 :: [])))) := by
    unfold shT shH Df.wSaga Df.gOpen Df.gShut
    simp
  rw [e1, cut_one 1 Df.wSaga _ _ (by decide) (gap32 _), Lex.S_blank _ _ (by decide), cut_one 1 nm _ _ (may1 hn) (gap32 _), Lex.S_blank _ _ (by decide), cut_one 3 Df.gOpen _ _ (by decide) (gap10 _), Lex.S_blank _ _ (by decide)]
  obtain ⟨T2, p2, h2, e2⟩ := cut_steps L (Df.gShut.data.toList ++ 10 :: []) (0 + Df.wSaga.size + 1 + nm.size + 1 + Df.gOpen.size + 1) hL
  rw [e2, cut_one 3 Df.gShut _ _ (by decide) (gap10 _), Lex.S_blank _ _ (by decide), Lex.S_nil]
  dsimp only
  refine ⟨_, ?_, rfl⟩
  unfold dTk
  refine ⟨⟨rfl, rfl⟩, ⟨rfl, rfl⟩, ⟨rfl, rfl⟩, butL_app _ _ _ _ h2 ?_⟩
  exact ⟨⟨rfl, rfl⟩, ⟨rfl, rfl⟩, trivial⟩
end Go.Proofs.YtdliljijgokpjaaDoor
