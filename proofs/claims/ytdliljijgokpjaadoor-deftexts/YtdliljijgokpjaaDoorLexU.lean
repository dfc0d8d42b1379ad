/- Plain mathematics of places: where tokens stand, and that blanks stand between them. -/
import Derived.Test.YtdliljijgokpjaaDoorLexO
namespace Go.Proofs.YtdliljijgokpjaaDoor.Lex
open _root_.Go.Proofs.YtdliljijgokpjaaDoor.Act (letB digB sgnB nameB headB)

/- blanks alone: whether a remark is open behind them -/
def bl1 (r : Bool) (b : UInt8) : Bool := if (b.toNat : Int) = 10 then false else if (b.toNat : Int) = 35 then true else r
def bad1 (r : Bool) (b : UInt8) : Bool := !bl1 r b && !decide ((b.toNat : Int) = 32) && !decide ((b.toNat : Int) = 9) && !decide ((b.toNat : Int) = 10)
def blf : Bool → List UInt8 → Option Bool
  | r, [] => some r
  | r, b :: t => if bad1 r b = true then none else blf (bl1 r b) t
def blanksB (l : List UInt8) : Bool := (blf false l).isSome
theorem blf_app : ∀ (x y : List UInt8) (r : Bool), blf r (x ++ y) = (blf r x).bind (fun q => blf q y) := by
  intro x
  induction x with
  | nil => intro y r; rfl
  | cons b t ih =>
    intro y r
    simp only [List.cons_append, blf]
    split
    · rfl
    · exact ih y _
theorem blf_blank {b : UInt8} (r : Bool) (h : blkB b = true) (hr : r = true → (b.toNat : Int) = 10) : blf r [b] = some false := by
  have hb : (b.toNat : Int) = 32 ∨ (b.toNat : Int) = 9 ∨ (b.toNat : Int) = 10 := by
    unfold blkB at h
    simp only [Bool.or_eq_true, decide_eq_true_eq] at h
    rcases h with (h | h) | h
    · exact Or.inl h
    · exact Or.inr (Or.inl h)
    · exact Or.inr (Or.inr h)
  have hbad : bad1 r b = false := by
    unfold bad1
    rcases hb with h | h | h
    · rw [decide_eq_true h]; simp
    · rw [decide_eq_true h]; simp
    · rw [decide_eq_true h]; simp
  have hn : bl1 r b = false := by
    unfold bl1
    rcases hb with h | h | h
    · rw [if_neg (by omega), if_neg (by omega)]
      cases r with
      | false => rfl
      | true => have := hr rfl; omega
    · rw [if_neg (by omega), if_neg (by omega)]
      cases r with
      | false => rfl
      | true => have := hr rfl; omega
    · rw [if_pos h]
  unfold blf
  rw [hbad, hn]; rfl
theorem blf_open : ∀ (l : List UInt8), (∀ b ∈ l, remB b = true) → blf true l = some true := by
  intro l
  induction l with
  | nil => intro _; rfl
  | cons b t ih =>
    intro h
    have hb : ¬ (b.toNat : Int) = 10 := by have := h b (by simp); unfold remB at this; simpa using this
    have hn : bl1 true b = true := by unfold bl1; rw [if_neg hb]; split <;> rfl
    have hbad : bad1 true b = false := by unfold bad1; rw [hn]; rfl
    unfold blf
    rw [hbad, hn]
    exact ih (fun c hc => h c (by simp [hc]))
theorem blf_rem (r : Bool) {b : UInt8} (t : List UInt8) (h : (b.toNat : Int) = 35) (ht : ∀ c ∈ t, remB c = true) : blf r (b :: t) = some true := by
  have hn : bl1 r b = true := by unfold bl1; rw [if_neg (by omega), if_pos h]
  have hbad : bad1 r b = false := by unfold bad1; rw [hn]; rfl
  unfold blf
  rw [hbad, hn]
  exact blf_open t ht

/- the places of tokens, as the law asks -/
def pl (L : List UInt8) : Nat → List Tok → Prop
  | a, [] => a = L.length
  | a, x :: t => ∃ p : Nat, x.p = p ∧ a ≤ p ∧ p + x.t.size ≤ L.length ∧ (L.drop p).take x.t.size = x.t.data.toList ∧ blanksB ((L.drop a).take (p - a)) = true ∧ pl L (p + x.t.size) t
theorem may_kd {s : ByteArray} (h : kd s ≠ 0) : mayB (kd s) s = true := by
  unfold kd at h ⊢
  unfold mayB
  split
  · rename_i h1; simp [h1]
  · split
    · rename_i h1; simp [h1]
    · split
      · rename_i h1; simp [h1]
      · rename_i h1 h2 h3
        rw [if_neg h1, if_neg h2, if_neg h3] at h
        exact absurd rfl h
theorem take_more (L : List UInt8) (a n m : Nat) : (L.drop a).take (n + m) = (L.drop a).take n ++ (L.drop (a + n)).take m := by
  rw [List.take_add, List.drop_drop]
theorem places (L : List UInt8) : ∀ (f : Nat) (a0 a : Nat) (r : Bool), a0 ≤ a → a ≤ L.length → L.length - a < f → blf false ((L.drop a0).take (a - a0)) = some r → (r = true → ∀ b t, L.drop a = b :: t → (b.toNat : Int) = 10) →
    (scn f (L.drop a) a).2 = none → pl L a0 (scn f (L.drop a) a).1 := by
  intro f
  induction f with
  | zero => intro a0 a r _ _ h; omega
  | succ f ih =>
    intro a0 a r h0 ha hf hg hr hn
    cases hl : L.drop a with
    | nil =>
      have hla : a = L.length := by
        have := congrArg List.length hl
        rw [List.length_drop, List.length_nil] at this
        omega
      rw [scn]
      refine ⟨a, rfl, h0, by show a + 0 ≤ _; omega, by show (L.drop a).take 0 = []; rw [List.take_zero], ?_, by show a + 0 = _; omega⟩
      unfold blanksB; rw [hg]; rfl
    | cons b t =>
      have hlt : a < L.length := by
        have := congrArg List.length hl
        rw [List.length_drop, List.length_cons] at this
        omega
      have ht : L.drop (a + 1) = t := by rw [← List.drop_drop, hl]; rfl
      rw [hl] at hn
      unfold scn at hn ⊢
      split at hn
      · rename_i hb
        rw [if_pos hb]
        rw [← ht] at hn ⊢
        refine ih a0 (a + 1) false (by omega) (by omega) (by omega) ?_ (by intro h; cases h) hn
        rw [show a + 1 - a0 = (a - a0) + 1 by omega, take_more, blf_app, hg, show a0 + (a - a0) = a by omega, hl]
        exact blf_blank r hb (fun e => hr e b t hl)
      · rename_i hb
        rw [if_neg hb]
        split at hn
        · rename_i h35
          rw [if_pos h35]
          have hp := rem_pos t h35
          have hle := run_le remB (b :: t)
          have hlen : (b :: t).length = L.length - a := by rw [← hl, List.length_drop]
          have hd : (b :: t).drop (run remB (b :: t)) = L.drop (a + run remB (b :: t)) := by rw [← List.drop_drop, hl]
          rw [hd] at hn ⊢
          refine ih a0 (a + run remB (b :: t)) true (by omega) (by omega) (by omega) ?_ ?_ hn
          · rw [show a + run remB (b :: t) - a0 = (a - a0) + run remB (b :: t) by omega, take_more, blf_app, hg, show a0 + (a - a0) = a by omega, hl]
            obtain ⟨n, hn'⟩ : ∃ n, run remB (b :: t) = n + 1 := ⟨run remB (b :: t) - 1, by omega⟩
            show blf r ((b :: t).take (run remB (b :: t))) = some true
            rw [hn', List.take_succ_cons]
            refine blf_rem r _ h35 (fun c hc => ?_)
            obtain ⟨j, hj, rfl⟩ := List.getElem_of_mem hc
            rw [List.length_take] at hj
            rw [List.getElem_take]
            have := run_get remB (b :: t) (j + 1) (by simp; omega) (by omega)
            simpa using this
          · intro _ c u hcu
            rw [← hd] at hcu
            have hlt2 : run remB (b :: t) < (b :: t).length := by
              have := congrArg List.length hcu
              simp only [List.length_drop, List.length_cons] at this ⊢
              omega
            have he := run_end remB (b :: t) hlt2
            have hc : (b :: t)[run remB (b :: t)] = c := by
              have := drop_get (b :: t) (run remB (b :: t)) hlt2
              rw [hcu] at this
              exact (List.cons.inj this).1.symm
            rw [hc] at he
            unfold remB at he
            simpa using he
        · rename_i h35
          rw [if_neg h35]
          split at hn
          · cases hn
          · rename_i hk
            rw [if_neg hk]
            have hp := tl_pos b t
            have hle := tl_le (b :: t)
            have hlen : (b :: t).length = L.length - a := by rw [← hl, List.length_drop]
            have hd : (b :: t).drop (tl (b :: t)) = L.drop (a + tl (b :: t)) := by rw [← List.drop_drop, hl]
            have hps : (pc (b :: t)).size = tl (b :: t) := pc_size _
            rw [hd] at hn ⊢
            refine ⟨a, rfl, h0, ?_, ?_, ?_, ?_⟩
            · show a + (pc (b :: t)).size ≤ _
              rw [hps]; omega
            · show (L.drop a).take (pc (b :: t)).size = (pc (b :: t)).data.toList
              rw [hps, hl, pc_list]
            · unfold blanksB; rw [hg]; rfl
            · show pl L (a + (pc (b :: t)).size) _
              rw [hps]
              exact ih (a + tl (b :: t)) (a + tl (b :: t)) false (Nat.le_refl _) (by omega) (by omega) (by simp [blf]) (by intro h; cases h) hn
theorem places_all (L : List UInt8) (h : (S L 0).2 = none) : pl L 0 (S L 0).1 := by
  have := places L (L.length + 1) 0 0 false (Nat.le_refl _) (by omega) (by omega) (by simp [blf]) (by intro h; cases h)
  rw [List.drop_zero] at this
  exact this h
theorem fault_at : ∀ (f : Nat) (l : List UInt8) (a p : Nat), (scn f l a).2 = some p → a ≤ p ∧ p < a + l.length := by
  intro f
  induction f with
  | zero => intro l a p h; cases h
  | succ f ih =>
    intro l a p h
    cases l with
    | nil => cases h
    | cons b t =>
      unfold scn at h
      split at h
      · have := ih t (a + 1) p h; simp; omega
      · split at h
        · rename_i h35
          have h1 := ih _ _ p h
          have h2 := run_le remB (b :: t)
          rw [List.length_drop] at h1
          omega
        · split at h
          · cases h; simp
          · have h1 := ih _ _ p h
            have h2 := tl_le (b :: t)
            rw [List.length_drop] at h1
            omega
theorem okays : ∀ (f : Nat) (l : List UInt8) (a : Nat), l.length < f → (scn f l a).2 = none → ∃ I e, (scn f l a).1 = I ++ [e] ∧ endT e = true ∧ I.all okT = true := by
  intro f
  induction f with
  | zero => intro l a h; omega
  | succ f ih =>
    intro l a hf h
    cases l with
    | nil => exact ⟨[], _, rfl, by unfold endT; simp, rfl⟩
    | cons b t =>
      rw [List.length_cons] at hf
      unfold scn at h ⊢
      split at h
      · rename_i hb
        rw [if_pos hb]
        exact ih t (a + 1) (by omega) h
      · rename_i hb
        rw [if_neg hb]
        split at h
        · rename_i h35
          rw [if_pos h35]
          have := rem_pos t h35
          exact ih _ _ (by simp; omega) h
        · rename_i h35
          rw [if_neg h35]
          split at h
          · cases h
          · rename_i hk
            rw [if_neg hk]
            have := tl_pos b t
            obtain ⟨I, e, h1, h2, h3⟩ := ih _ _ (by simp; omega) h
            refine ⟨⟨kd (pc (b :: t)), pc (b :: t), a⟩ :: I, e, ?_, h2, ?_⟩
            · show _ :: (scn f _ _).1 = _
              rw [h1]; rfl
            · rw [List.all_cons, h3, Bool.and_true]
              exact may_kd hk
theorem okays_S (L : List UInt8) (h : (S L 0).2 = none) : ckE (S L 0).1 ≠ 80 := by
  obtain ⟨I, e, h1, h2, h3⟩ := okays (L.length + 1) L 0 (by omega) h
  show ckE (scn (L.length + 1) L 0).1 ≠ 80
  rw [h1, ck_snoc, if_pos h2, if_pos h3]
  split <;> decide
/- every token of a text lies in it -/
theorem tok_rng : ∀ (f : Nat) (l : List UInt8) (a : Nat), ∀ x ∈ (scn f l a).1, (∃ n : Nat, x.p = n ∧ n ≤ a + l.length) ∧ x.t.size ≤ l.length := by
  intro f
  induction f with
  | zero => intro l a x hx; simp [scn] at hx
  | succ f ih =>
    intro l a x hx
    cases l with
    | nil => simp [scn] at hx; subst hx; exact ⟨⟨a, rfl, by omega⟩, by show (0 : Nat) ≤ _; omega⟩
    | cons b t =>
      unfold scn at hx
      split at hx
      · obtain ⟨⟨n, h1, h2⟩, h3⟩ := ih t (a + 1) x hx
        exact ⟨⟨n, h1, by simp; omega⟩, by simp; omega⟩
      · split at hx
        · obtain ⟨⟨n, h1, h2⟩, h3⟩ := ih _ _ x hx
          have h4 := run_le remB (b :: t)
          rw [List.length_drop] at h2 h3
          exact ⟨⟨n, h1, by omega⟩, by omega⟩
        · split at hx
          · simp at hx
          · have h4 := tl_le (b :: t)
            rcases List.mem_cons.1 hx with rfl | hx
            · exact ⟨⟨a, rfl, by omega⟩, by show (pc (b :: t)).size ≤ _; rw [pc_size]; exact h4⟩
            · obtain ⟨⟨n, h1, h2⟩, h3⟩ := ih _ _ x hx
              rw [List.length_drop] at h2 h3
              exact ⟨⟨n, h1, by omega⟩, by omega⟩

theorem moved_scan (L : List UInt8) (h : L.length ≤ 1983) : scT (ahd ++ L) = (scT L).map (mvT 17) ∧ scF (ahd ++ L) = scF L ∧ (scF L = 0 ∨ scF L = 80 ∧ scT L = []) ∧ (scF L = 80 → scA (ahd ++ L) = scA L + 17 ∧ 0 ≤ scA L ∧ scA L ≤ 2000) ∧ (scF L = 0 → scA (ahd ++ L) = 0 ∧ scA L = 0) ∧ ∀ x ∈ scT L, 0 ≤ x.p ∧ x.p ≤ 2000 := by
  have e1 : S (ahd ++ L) 0 = ((S L 0).1.map (mvT 17), (S L 0).2.map (· + 17)) := by rw [S_ahead, S_move]
  have hl : (ahd ++ L).length = L.length + 17 := by rw [List.length_append]; show 17 + _ = _; omega
  have hr := tok_rng (L.length + 1) L 0
  have hp := fault_at (L.length + 1) L 0
  have b1 : ¬ 2000 < (ahd ++ L).length := by omega
  have b2 : ¬ 2000 < L.length := by omega
  cases h2 : (S L 0).2 with
  | none =>
    have s1 : scT L = (S L 0).1 := by unfold scT; rw [if_neg b2, h2]
    have s2 : scF L = 0 := by unfold scF; rw [if_neg b2, h2]; rfl
    have s3 : scA L = 0 := by unfold scA; rw [if_neg b2, h2]
    have s4 : scT (ahd ++ L) = (S L 0).1.map (mvT 17) := by unfold scT; rw [if_neg b1, e1, h2]; rfl
    have s5 : scF (ahd ++ L) = 0 := by unfold scF; rw [if_neg b1, e1, h2]; rfl
    have s6 : scA (ahd ++ L) = 0 := by unfold scA; rw [if_neg b1, e1, h2]; rfl
    rw [s1, s2, s3, s4, s5, s6]
    refine ⟨rfl, rfl, Or.inl rfl, (fun h => by cases h), (fun _ => ⟨rfl, rfl⟩), fun x hx => ?_⟩
    obtain ⟨⟨n, h3, h4⟩, _⟩ := hr x hx
    omega
  | some p =>
    have := hp p h2
    have s1 : scT L = [] := by unfold scT; rw [if_neg b2, h2]
    have s2 : scF L = 80 := by unfold scF; rw [if_neg b2, h2]; rfl
    have s3 : scA L = (p : Int) := by unfold scA; rw [if_neg b2, h2]
    have s4 : scT (ahd ++ L) = [] := by unfold scT; rw [if_neg b1, e1, h2]; rfl
    have s5 : scF (ahd ++ L) = 80 := by unfold scF; rw [if_neg b1, e1, h2]; rfl
    have s6 : scA (ahd ++ L) = ((p + 17 : Nat) : Int) := by unfold scA; rw [if_neg b1, e1, h2]; rfl
    rw [s1, s2, s3, s4, s5, s6]
    exact ⟨rfl, rfl, Or.inr ⟨rfl, rfl⟩, (fun _ => ⟨by omega, by omega, by omega⟩), (fun h => by cases h), (fun x hx => by cases hx)⟩
end Go.Proofs.YtdliljijgokpjaaDoor.Lex
