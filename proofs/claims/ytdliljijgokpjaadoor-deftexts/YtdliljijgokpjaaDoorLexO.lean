/- Plain mathematics of cutting: moved texts, texts of tokens, places. -/
import Derived.Test.YtdliljijgokpjaaDoorLexN
namespace Go.Proofs.YtdliljijgokpjaaDoor.Lex
open _root_.Go.Proofs.YtdliljijgokpjaaDoor.Act (letB digB sgnB nameB headB)

/- what is cut from a later place on is the same, moved -/
def mvT (d : Nat) (x : Tok) : Tok := ⟨x.k, x.t, x.p + d⟩
theorem scn_move (d : Nat) : ∀ (f : Nat) (l : List UInt8) (a : Nat), scn f l (a + d) = ((scn f l a).1.map (mvT d), (scn f l a).2.map (· + d)) := by
  intro f
  induction f with
  | zero => intro l a; rfl
  | succ f ih =>
    intro l a
    cases l with
    | nil => simp [scn, mvT]
    | cons b t =>
      unfold scn
      split
      · rw [← ih t (a + 1)]; rw [show a + d + 1 = a + 1 + d by omega]
      · split
        · rw [← ih _ (a + run remB (b :: t))]; rw [show a + d + run remB (b :: t) = a + run remB (b :: t) + d by omega]
        · split
          · simp
          · rw [show a + d + tl (b :: t) = a + tl (b :: t) + d by omega, ih _ (a + tl (b :: t))]
            simp [mvT]
theorem S_move (l : List UInt8) (d : Nat) : S l d = ((S l 0).1.map (mvT d), (S l 0).2.map (· + d)) := by
  have := scn_move d (l.length + 1) l 0
  rw [Nat.zero_add] at this
  exact this
def ahd : List UInt8 := [32, 35, 32, 97, 32, 114, 101, 109, 97, 114, 107, 32, 255, 32, 123, 10, 9]
theorem S_ahead (l : List UInt8) : S (ahd ++ l) 0 = S l 17 := by
  show S (32 :: 35 :: 32 :: 97 :: 32 :: 114 :: 101 :: 109 :: 97 :: 114 :: 107 :: 32 :: 255 :: 32 :: 123 :: 10 :: 9 :: l) 0 = _
  rw [S_blank _ _ (by decide), S_rem _ _ (by decide) (by decide)]
  have hr : run remB (35 :: 32 :: 97 :: 32 :: 114 :: 101 :: 109 :: 97 :: 114 :: 107 :: 32 :: 255 :: 32 :: 123 :: 10 :: 9 :: l) = 14 := by rfl
  rw [hr]
  show S (10 :: 9 :: l) 15 = _
  rw [S_blank _ _ (by decide), S_blank _ _ (by decide)]

/- a token that may be, and what may stand behind it, is cut so -/
def gap : List UInt8 → Bool
  | [] => true
  | b :: _ => !sgnB b
theorem run_app (p : UInt8 → Bool) (x r : List UInt8) (hx : x.all p = true) (hr : ∀ b t, r = b :: t → p b = false) : run p (x ++ r) = x.length := by
  induction x with
  | nil =>
    cases r with
    | nil => rfl
    | cons b t => exact run_no t (hr b t rfl)
  | cons b t ih =>
    rw [List.all_cons, Bool.and_eq_true] at hx
    rw [List.cons_append, run_yes _ hx.1, ih hx.2]; rfl
theorem list_bytes {x y : ByteArray} (h : x.data.toList = y.data.toList) : x = y := by
  cases x with
  | mk a => cases y with
    | mk b => simp at h; rw [h]
theorem bytes_list (x : ByteArray) : (⟨x.data.toList.toArray⟩ : ByteArray) = x := list_bytes (by simp)
theorem not_blk {b : UInt8} (h : 33 ≤ b.toNat) : blkB b = false := by
  unfold blkB; rw [decide_eq_false (by omega), decide_eq_false (by omega), decide_eq_false (by omega)]; rfl
theorem may_cut (k : Int) (x : ByteArray) (r : List UInt8) (h : mayB k x = true) (hr : gap r = true) :
    ∃ b t, x.data.toList ++ r = b :: t ∧ blkB b = false ∧ ¬ (b.toNat : Int) = 35 ∧ tl (b :: t) = x.size ∧ pc (b :: t) = x ∧ kd x = k ∧ k ≠ 0 := by
  have hsz := may_size h
  have hl : x.data.toList.length = x.size := by simp
  obtain ⟨b, u, hxu⟩ : ∃ b u, x.data.toList = b :: u := by
    cases hc : x.data.toList with
    | nil => rw [hc] at hl; simp at hl; omega
    | cons b u => exact ⟨b, u, rfl⟩
  have hpc : ∀ t, tl (b :: t) = x.size → b :: t = x.data.toList ++ r → pc (b :: t) = x := by
    intro t ht he
    apply list_bytes
    rw [pc_list, ht, he, ← hl, List.take_left]
  have hrs : ∀ c t, r = c :: t → sgnB c = false := by
    intro c t e
    rw [e] at hr
    simpa [gap] using hr
  have hrd : ∀ c t, r = c :: t → digB c = false := by
    intro c t e
    have := hrs c t e
    unfold Act.sgnB at this
    rw [Bool.or_eq_false_iff] at this
    exact this.2
  unfold mayB at h
  split at h
  · rename_i hk
    have hall : x.data.toList.all sgnB = true := by unfold Act.nameB at h; simp only [Bool.and_eq_true] at h; exact h.2
    have hhd : letB b = true := by unfold Act.nameB at h; rw [hxu] at h; simp only [Bool.and_eq_true] at h; exact h.1.2
    have hr97 : 97 ≤ b.toNat ∧ b.toNat ≤ 122 := by unfold Act.letB at hhd; simp only [Bool.and_eq_true, decide_eq_true_eq] at hhd; omega
    have ht : tl (b :: (u ++ r)) = x.size := by
      rw [tl_let _ hhd, show b :: (u ++ r) = x.data.toList ++ r by rw [hxu]; rfl, run_app sgnB _ r hall hrs, hl]
    obtain ⟨q1, q2⟩ := head_let x hxu hhd
    refine ⟨b, u ++ r, by rw [hxu]; rfl, not_blk (by omega), by omega, ht, hpc _ ht (by rw [hxu]; rfl), ?_, by omega⟩
    unfold kd
    rw [q1, q2, h, hk]; rfl
  · split at h
    · rename_i hk
      have hall : x.data.toList.all digB = true := by unfold numB at h; simp only [Bool.and_eq_true] at h; exact h.1.2
      have hhd : digB b = true := by rw [hxu, List.all_cons, Bool.and_eq_true] at hall; exact hall.1
      have hr48 : 48 ≤ b.toNat ∧ b.toNat ≤ 57 := by have h5 := hhd; unfold Act.digB at h5; simp only [Bool.and_eq_true, decide_eq_true_eq] at h5; omega
      have ht : tl (b :: (u ++ r)) = x.size := by
        rw [tl_dig _ (Act.dig_let hhd) hhd, show b :: (u ++ r) = x.data.toList ++ r by rw [hxu]; rfl, run_app digB _ r hall hrd, hl]
      obtain ⟨q1, q2⟩ := head_dig x hxu hhd
      refine ⟨b, u ++ r, by rw [hxu]; rfl, not_blk (by omega), by omega, ht, hpc _ ht (by rw [hxu]; rfl), ?_, by omega⟩
      unfold kd
      rw [q1, h, hk]; rfl
    · split at h
      · rename_i hk
        have hcase : ∃ c : UInt8, x = ⟨#[c]⟩ ∧ letB c = false ∧ digB c = false ∧ blkB c = false ∧ ¬ (c.toNat : Int) = 35 := by
          rcases sig_parts h with e | e | e
          · exact ⟨123, e, by decide, by decide, by decide, by decide⟩
          · exact ⟨125, e, by decide, by decide, by decide, by decide⟩
          · exact ⟨59, e, by decide, by decide, by decide, by decide⟩
        obtain ⟨c, hx1, c1, c2, c3, c4⟩ := hcase
        have hx2 : x.data.toList = [c] := by rw [hx1]
        have hs1 : x.size = 1 := by rw [hx1]; rfl
        have ht : tl (c :: r) = x.size := by rw [tl_one r c1 c2, hs1]
        refine ⟨c, r, by rw [hx2]; rfl, c3, c4, ht, ?_, ?_, by omega⟩
        · apply list_bytes
          rw [pc_list, ht, hs1, hx2]; rfl
        · unfold kd
          rw [h, hk]; rfl
      · cases h

/- tokens are cut from their text as they are -/
def but (x y : Tok) : Prop := x.k = y.k ∧ x.t = y.t
def butL : List Tok → List Tok → Prop
  | [], [] => True
  | x :: t, y :: u => but x y ∧ butL t u
  | _, _ => False
theorem gap_jr (t : List Tok) : gap (jr t) = true := by
  cases t with
  | nil => rfl
  | cons x t => simp [jr, gap]; decide
theorem back_jr (e : Tok) (he : endT e = true) : ∀ (I : List Tok) (a : Nat), I.all okT = true → butL (S (jr I) a).1 (I ++ [e]) ∧ (S (jr I) a).2 = none := by
  have he0 : e.k = 0 ∧ e.t = ⟨#[]⟩ := by unfold endT at he; simpa only [Bool.and_eq_true, decide_eq_true_eq] using he
  intro I
  induction I with
  | nil => intro a _; exact ⟨⟨⟨he0.1.symm, he0.2.symm⟩, trivial⟩, rfl⟩
  | cons x t ih =>
    intro a h
    rw [List.all_cons, Bool.and_eq_true] at h
    rw [jr, S_blank _ _ (by decide)]
    obtain ⟨b, u, h1, h2, h3, h4, h5, h6, h7⟩ := may_cut x.k x.t (jr t) h.1 (gap_jr t)
    have hd : (b :: u).drop (tl (b :: u)) = jr t := by
      rw [h4, ← h1]
      have hl : x.t.data.toList.length = x.t.size := by simp
      rw [← hl, List.drop_left]
    rw [h1, S_tok u (a + 1) h2 h3 (by rw [h5, h6]; exact h7), hd, h5, h6]
    obtain ⟨i1, i2⟩ := ih (a + 1 + tl (b :: u)) h.2
    exact ⟨⟨⟨rfl, rfl⟩, i1⟩, i2⟩
theorem back_jf (I : List Tok) (e : Tok) (he : endT e = true) (h : I.all okT = true) : butL (S (jf I) 0).1 (I ++ [e]) ∧ (S (jf I) 0).2 = none := by
  cases I with
  | nil => exact back_jr e he [] 0 rfl
  | cons x t =>
    rw [List.all_cons, Bool.and_eq_true] at h
    obtain ⟨b, u, h1, h2, h3, h4, h5, h6, h7⟩ := may_cut x.k x.t (jr t) h.1 (gap_jr t)
    have hd : (b :: u).drop (tl (b :: u)) = jr t := by
      rw [h4, ← h1]
      have hl : x.t.data.toList.length = x.t.size := by simp
      rw [← hl, List.drop_left]
    rw [jf, h1, S_tok u 0 h2 h3 (by rw [h5, h6]; exact h7), hd, h5, h6]
    obtain ⟨i1, i2⟩ := back_jr e he t (0 + tl (b :: u)) h.2
    exact ⟨⟨⟨rfl, rfl⟩, i1⟩, i2⟩
theorem butL_len : ∀ (L M : List Tok), butL L M → L.length = M.length := by
  intro L
  induction L with
  | nil => intro M h; cases M with
    | nil => rfl
    | cons y u => exact h.elim
  | cons x t ih => intro M h; cases M with
    | nil => exact h.elim
    | cons y u => rw [List.length_cons, List.length_cons, ih u h.2]
theorem butL_get : ∀ (L M : List Tok), butL L M → ∀ j (h1 : j < L.length) (h2 : j < M.length), L[j].k = M[j].k ∧ L[j].t = M[j].t := by
  intro L
  induction L with
  | nil => intro M _ j h1; simp at h1
  | cons x t ih => intro M h; cases M with
    | nil => exact h.elim
    | cons y u =>
      intro j h1 h2
      cases j with
      | zero => exact h.1
      | succ j => exact ih u h.2 j (by simpa using h1) (by simpa using h2)
theorem scn_len : ∀ (f : Nat) (l : List UInt8) (a : Nat), (scn f l a).1.length ≤ l.length + 1 := by
  intro f
  induction f with
  | zero => intro l a; simp [scn]
  | succ f ih =>
    intro l a
    cases l with
    | nil => simp [scn]
    | cons b t =>
      unfold scn
      split
      · have := ih t (a + 1); simp; omega
      · split
        · have := ih ((b :: t).drop (run remB (b :: t))) (a + run remB (b :: t))
          rw [List.length_drop] at this
          omega
        · split
          · simp
          · have h1 := ih ((b :: t).drop (tl (b :: t))) (a + tl (b :: t))
            have h2 := tl_pos b t
            have h3 := tl_le (b :: t)
            simp only [List.length_drop, List.length_cons] at h1 h3 ⊢
            omega
theorem scT_len (l : List UInt8) : (scT l).length ≤ 2001 := by
  unfold scT
  split
  · simp
  · split
    · have := scn_len (l.length + 1) l 0
      unfold S
      omega
    · simp

end Go.Proofs.YtdliljijgokpjaaDoor.Lex
