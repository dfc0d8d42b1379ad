/- What the proof is made of, part 23. -/
import Derived.Test.YtgidkmipecfjhaaTLLDoes22
import Derived.Maps.AppendAt
namespace Go.Proofs.Ytgidkmipecfjhaa
open Led (Acc Mk)
theorem nm_set {A : List Acc} {p : Nat} {y : Acc} (hp : p < A.length) (hy : y.s = A[p].s) : Led.nm (A.set p y) = Led.nm A := by
  unfold Led.nm
  rw [List.map_set, hy]
  have : (A.map Acc.s)[p]'(by simpa using hp) = A[p].s := by simp
  rw [← this]; exact List.set_getElem_self _
theorem ky_set {M : List Mk} {p : Nat} {y : Mk} (hp : p < M.length) (hy : y.key = M[p].key) : Led.ky (M.set p y) = Led.ky M := by
  unfold Led.ky
  rw [List.map_set, hy]
  have : (M.map Mk.key)[p]'(by simpa using hp) = M[p].key := by simp
  rw [← this]; exact List.set_getElem_self _
theorem mkOk_nm {A A' : List Acc} (h : Led.nm A' = Led.nm A) (m : Mk) : Led.mkOk A' m = Led.mkOk A m := by unfold Led.mkOk; rw [h]
theorem may_change {A : List Acc} {M M' : List Mk} {p : Nat} {y : Acc} {t : ByteArray} {i o j u : Int} (h : Led.May A M) (hp : p < A.length) (ht : A[p].s = t) (hy : y.s = t) (hok : Led.accOk y = true) (hl : M'.length ≤ 500) (ho : ∀ m ∈ M', Led.mkOk A m = true) (hu : Led.upB (Led.ky M') = true)
    (hb : y.b = A[p].b + i) (hc : y.c = A[p].c + o) (hyy : y.y = A[p].y + j) (hz : y.z = A[p].z + u)
    (s1 : ∀ s, Led.sm (Led.gFI s) M' = Led.sm (Led.gFI s) M + if t = s then i else 0) (s2 : ∀ s, Led.sm (Led.gFO s) M' = Led.sm (Led.gFO s) M + if t = s then o else 0)
    (s3 : ∀ s, Led.sm (Led.gKI s) M' = Led.sm (Led.gKI s) M + if t = s then j else 0) (s4 : ∀ s, Led.sm (Led.gKO s) M' = Led.sm (Led.gKO s) M + if t = s then u else 0) : Led.May (A.set p y) M' := by
  have hn := nm_set hp (hy.trans ht.symm)
  refine ⟨by rw [List.length_set]; exact h.la, ?_, by rw [hn]; exact h.ua, hl, fun m hm => by rw [mkOk_nm hn]; exact ho m hm, hu, ?_⟩
  · intro x hx
    rcases List.mem_or_eq_of_mem_set hx with hx | rfl
    · exact h.oa x hx
    · exact hok
  · intro x hx
    obtain ⟨q, hq, rfl⟩ := List.getElem_of_mem hx
    rw [List.length_set] at hq
    rw [List.getElem_set]
    by_cases e : p = q
    · subst e
      rw [if_pos rfl]
      obtain ⟨p1, p2, p3, p4⟩ := (Led.pots_iff M A[p]).1 (h.po _ (List.getElem_mem hp))
      refine (Led.pots_iff M' y).2 ?_
      rw [hy, s1, s2, s3, s4, if_pos rfl, if_pos rfl, if_pos rfl, if_pos rfl, hb, hc, hyy, hz, p1, p2, p3, p4, ht]
      exact ⟨rfl, rfl, rfl, rfl⟩
    · rw [if_neg e]
      have hne : t ≠ A[q].s := fun e2 => e (by
        have e3 := Led.nm_get A p hp
        have e4 := Led.nm_get A q hq
        exact Led.up_one h.ua (by rw [Led.nm_len]; exact hp) (by rw [Led.nm_len]; exact hq) (by rw [e3, e4, ht, e2]))
      obtain ⟨p1, p2, p3, p4⟩ := (Led.pots_iff M A[q]).1 (h.po _ (List.getElem_mem hq))
      refine (Led.pots_iff M' A[q]).2 ?_
      rw [s1, s2, s3, s4, if_neg hne, if_neg hne, if_neg hne, if_neg hne]
      omega
theorem atA_get {A : List Acc} {t : ByteArray} (hu : Led.upB (Led.nm A) = true) (h : t ∈ Led.nm A) : ∃ hp : Led.pos (Led.nm A) t < A.length, A[Led.pos (Led.nm A) t] = atA A t ∧ (atA A t).s = t := by
  obtain ⟨hp, e⟩ := Led.pos_mem hu h
  rw [Led.nm_len] at hp
  have hx : A[Led.pos (Led.nm A) t] = atA A t := by unfold atA; rw [List.getD_eq_getElem?_getD, List.getElem?_eq_getElem hp]; rfl
  refine ⟨hp, hx, ?_⟩
  rw [← hx, ← Led.nm_get A _ hp]; exact e
theorem atM_get {M : List Mk} {key : ByteArray} (hu : Led.upB (Led.ky M) = true) (h : key ∈ Led.ky M) : ∃ hp : Led.pos (Led.ky M) key < M.length, M[Led.pos (Led.ky M) key] = atM M key ∧ (atM M key).key = key := by
  obtain ⟨hp, e⟩ := Led.pos_mem hu h
  rw [Led.ky_len] at hp
  have hx : M[Led.pos (Led.ky M) key] = atM M key := by unfold atM; rw [List.getD_eq_getElem?_getD, List.getElem?_eq_getElem hp]; rfl
  refine ⟨hp, hx, ?_⟩
  rw [← hx, ← Led.ky_get M _ hp]; exact e
theorem mem_ins {α : Type} {L : List α} {p : Nat} {x y : α} (h : y ∈ L.take p ++ x :: L.drop p) : y = x ∨ y ∈ L := by
  rcases List.mem_append.1 h with h | h
  · exact Or.inr (List.mem_of_mem_take h)
  · rcases List.mem_cons.1 h with h | h
    · exact Or.inl h
    · exact Or.inr (List.mem_of_mem_drop h)
theorem open_parts {A : List Acc} {M : List Mk} {s : ByteArray} {n : Int} (he : openE A M s n = 0) : Led.mayB A M = true ∧ Act.nameB s = true ∧ fitsB n = true ∧ Led.hasB (Led.nm A) s = false ∧ A.length < 12 := by
  unfold openE at he
  by_cases h1 : (Led.mayB A M && (Act.nameB s && fitsB n)) = true
  · rw [if_pos h1] at he
    rw [Bool.and_eq_true, Bool.and_eq_true] at h1
    cases hh : Led.hasB (Led.nm A) s with
    | true => rw [hh] at he; cases he
    | false =>
      rw [hh] at he
      by_cases hl : 12 ≤ A.length
      · rw [if_pos hl] at he; cases he
      · exact ⟨h1.1, h1.2.1, h1.2.2, rfl, by omega⟩
  · rw [if_neg h1] at he; cases he
theorem nm_open (A : List Acc) (s : ByteArray) (n : Int) : Led.nm (openA A s n) = (Led.nm A).take (Led.pos (Led.nm A) s) ++ s :: (Led.nm A).drop (Led.pos (Led.nm A) s) := by
  unfold openA
  show List.map Acc.s (_ ++ _ :: _) = _
  rw [List.map_append, List.map_cons, List.map_take, List.map_drop]; rfl
theorem open_may {A : List Acc} {M : List Mk} {s : ByteArray} {n : Int} (he : openE A M s n = 0) : Led.May (openA A s n) M := by
  obtain ⟨hm, hn, hf, hh, hl⟩ := open_parts he
  have hM := (Led.may_iff A M).1 hm
  have hns : s ∉ Led.nm A := fun h => by rw [(Led.has_iff _ _).2 h] at hh; cases hh
  unfold fitsB at hf
  simp only [Bool.and_eq_true, decide_eq_true_eq] at hf
  refine ⟨by rw [open_len]; omega, ?_, by rw [nm_open]; exact Led.up_ins hM.ua hns, hM.lm, ?_, hM.um, ?_⟩
  · intro x hx
    rcases mem_ins hx with rfl | hx
    · exact (Act.acc_iff _ _ _ _ _ _ _).2 ⟨hn, (Pot.may_iff _ _ _).2 ⟨by show (0 : Int) ≤ 0; omega, hf.1, by show (0 : Int) ≤ 0; omega, by show n + 0 ≤ 1000000000000000; omega⟩, (Pot.may_iff _ _ _).2 ⟨by show (0 : Int) ≤ 0; omega, by show (0 : Int) ≤ 0; omega, by show (0 : Int) ≤ 0; omega, by show (0 : Int) + 0 ≤ 1000000000000000; omega⟩⟩
    · exact hM.oa x hx
  · intro m hm
    obtain ⟨h1, h2, h3, h4⟩ := (Led.mk_iff A m).1 (hM.om m hm)
    refine (Led.mk_iff _ m).2 ⟨h1, h2, ?_, h4⟩
    rw [nm_open]
    rw [← List.take_append_drop (Led.pos (Led.nm A) s) (Led.nm A)] at h3
    rcases List.mem_append.1 h3 with h | h
    · exact List.mem_append.2 (Or.inl h)
    · exact List.mem_append.2 (Or.inr (List.mem_cons.2 (Or.inr h)))
  · intro x hx
    rcases mem_ins hx with rfl | hx
    · have hz : ∀ m ∈ M, Led.hit s m = false := fun m hm => hit_not (Or.inl fun e => hns (by rw [← e]; exact ((Led.mk_iff A m).1 (hM.om m hm)).2.2.1))
      refine (Led.pots_iff M _).2 ⟨?_, ?_, ?_, ?_⟩
      · exact (Led.sm_zero (fun m hm => by unfold Led.gFI; show (if Led.hit s m = true then _ else _) = _; rw [hz m hm]; rfl)).symm
      · exact (Led.sm_zero (fun m hm => by unfold Led.gFO; show (if Led.hit s m = true then _ else _) = _; rw [hz m hm]; rfl)).symm
      · exact (Led.sm_zero (fun m hm => by unfold Led.gKI; show (if Led.hit s m = true then _ else _) = _; rw [hz m hm]; rfl)).symm
      · exact (Led.sm_zero (fun m hm => by unfold Led.gKO; show (if Led.hit s m = true then _ else _) = _; rw [hz m hm]; rfl)).symm
    · exact hM.po x hx
theorem do_parts {A : List Acc} {M : List Mk} {key : ByteArray} {k : Int} {t : ByteArray} {n : Int} (he : doE A M key k t n = 0) : Led.mayB A M = true ∧ Led.keyB key = true ∧ Act.actB k t n = true ∧ ((Led.hasB (Led.ky M) key = true ∧ sameB (atM M key) k t n = true) ∨ (Led.hasB (Led.ky M) key = false ∧ Led.hasB (Led.nm A) t = true ∧ M.length < 500 ∧ mvX Act.chDo (atA A t) k t n = 0)) := by
  unfold doE at he
  by_cases h1 : (Led.mayB A M && Led.keyB key) = true
  · rw [if_pos h1] at he
    rw [Bool.and_eq_true] at h1
    cases hab : Act.actB k t n with
    | false => rw [hab] at he; cases he
    | true =>
      rw [hab, if_pos rfl] at he
      cases hh : Led.hasB (Led.ky M) key with
      | true =>
        rw [hh, if_pos rfl] at he
        cases hq : sameB (atM M key) k t n with
        | false => rw [hq] at he; cases he
        | true => exact ⟨h1.1, h1.2, rfl, Or.inl ⟨rfl, rfl⟩⟩
      | false =>
        rw [hh, if_neg (by decide)] at he
        unfold begE at he
        cases ha : Led.hasB (Led.nm A) t with
        | false => rw [ha] at he; cases he
        | true =>
          rw [ha, if_pos rfl] at he
          by_cases hl : 500 ≤ M.length
          · rw [if_pos hl] at he; cases he
          · rw [if_neg hl] at he; exact ⟨h1.1, h1.2, rfl, Or.inr ⟨rfl, rfl, by omega, he⟩⟩
  · rw [if_neg h1] at he; cases he
theorem key_rng {key : ByteArray} (h : Led.keyB key = true) : 0 < key.size ∧ key.size ≤ 100 := by
  unfold Led.keyB at h
  simp only [Bool.and_eq_true, decide_eq_true_eq] at h
  exact h
theorem ky_ins (M : List Mk) (m : Mk) : Led.ky (insK M m) = (Led.ky M).take (Led.pos (Led.ky M) m.key) ++ m.key :: (Led.ky M).drop (Led.pos (Led.ky M) m.key) := by
  unfold insK
  show List.map Mk.key (_ ++ _ :: _) = _
  rw [List.map_append, List.map_cons, List.map_take, List.map_drop]; rfl
theorem hit_eq {s : ByteArray} {m : Mk} (h : m.st = 1) : Led.hit s m = decide (m.t = s) := by unfold Led.hit; rw [decide_eq_true h, Bool.and_true]
theorem do_new {A : List Acc} {M : List Mk} {key : ByteArray} {k : Int} {t : ByteArray} {n : Int} (hm : Led.May A M) (hk : Led.keyB key = true) (hab : Act.actB k t n = true) (hh : Led.hasB (Led.ky M) key = false) (ha : Led.hasB (Led.nm A) t = true) (hl : M.length < 500) (hmv : mvX Act.chDo (atA A t) k t n = 0) :
    Led.May (A.set (Led.pos (Led.nm A) t) (mvA Act.chDo (atA A t) k n)) (insK M ⟨key, k, t, n, 1⟩) := by
  obtain ⟨hp, hx, hxs⟩ := atA_get hm.ua ((Led.has_iff _ _).1 ha)
  obtain ⟨_, _, _, hva, hok⟩ := Led.mv_do (x := atA A t) (k := k) (t := t) (n := n) hmv
  have hva' : mvA Act.chDo (atA A t) k n = Led.shift (atA A t) 1 (Act.dF k t n) (max (Act.dF k t n) 0) (max (-Act.dF k t n) 0) (Act.dK k t n) (max (Act.dK k t n) 0) (max (-Act.dK k t n) 0) := hva
  have hnk : key ∉ Led.ky M := fun h => by rw [(Led.has_iff _ _).2 h] at hh; cases hh
  refine may_change (t := t) (i := max (Act.dF k t n) 0) (o := max (-Act.dF k t n) 0) (j := max (Act.dK k t n) 0) (u := max (-Act.dK k t n) 0) hm hp (by rw [hx]; exact hxs) (by show (atA A t).s = t; exact hxs) hok (by rw [insK_len]; omega) ?_ (by rw [ky_ins]; exact Led.up_ins hm.um hnk) (by rw [hva', hx]; rfl) (by rw [hva', hx]; rfl) (by rw [hva', hx]; rfl) (by rw [hva', hx]; rfl) ?_ ?_ ?_ ?_
  · intro m hmm
    rcases mem_ins hmm with rfl | hmm
    · exact (Led.mk_iff A _).2 ⟨key_rng hk, hab, (Led.has_iff _ _).1 ha, by show (1 : Int) ≤ 1; omega, by show (1 : Int) ≤ 3; omega⟩
    · exact hm.om m hmm
  · intro s
    show Led.sm _ (_ ++ _ :: _) = _
    rw [Led.sm_ins]; unfold Led.gFI; rw [hit_eq rfl]; simp only [decide_eq_true_eq]; rfl
  · intro s
    show Led.sm _ (_ ++ _ :: _) = _
    rw [Led.sm_ins]; unfold Led.gFO; rw [hit_eq rfl]; simp only [decide_eq_true_eq]; rfl
  · intro s
    show Led.sm _ (_ ++ _ :: _) = _
    rw [Led.sm_ins]; unfold Led.gKI; rw [hit_eq rfl]; simp only [decide_eq_true_eq]; rfl
  · intro s
    show Led.sm _ (_ ++ _ :: _) = _
    rw [Led.sm_ins]; unfold Led.gKO; rw [hit_eq rfl]; simp only [decide_eq_true_eq]; rfl
theorem do_may {A : List Acc} {M : List Mk} {key : ByteArray} {k : Int} {t : ByteArray} {n : Int} (he : doE A M key k t n = 0) : Led.May (doA A M key k t n) (doM M key k t n) := by
  obtain ⟨hm, hk, hab, ⟨hh, _⟩ | ⟨hh, ha, hl, hmv⟩⟩ := do_parts he
  · unfold doA doM; rw [hh, if_pos rfl, if_pos rfl]; exact (Led.may_iff A M).1 hm
  · unfold doA doM; rw [hh, if_neg (by decide), if_neg (by decide)]
    exact do_new ((Led.may_iff A M).1 hm) hk hab hh ha hl hmv
theorem ins_at {M : List Mk} {m : Mk} (hu : Led.upB (Led.ky M) = true) (hn : m.key ∉ Led.ky M) : Led.hasB (Led.ky (insK M m)) m.key = true ∧ atM (insK M m) m.key = m := by
  have hmem : m.key ∈ Led.ky (insK M m) := by rw [ky_ins]; exact List.mem_append.2 (Or.inr (List.mem_cons.2 (Or.inl rfl)))
  have hup : Led.upB (Led.ky (insK M m)) = true := by rw [ky_ins]; exact Led.up_ins hu hn
  refine ⟨(Led.has_iff _ _).2 hmem, ?_⟩
  have hpl : Led.pos (Led.ky M) m.key ≤ M.length := by have := Led.pos_le (Led.ky M) m.key; rw [Led.ky_len] at this; exact this
  have hg : (insK M m)[Led.pos (Led.ky M) m.key]'(by rw [insK_len]; omega) = m := by
    unfold insK
    rw [List.getElem_append_right (by rw [List.length_take]; omega)]
    simp only [List.length_take, Nat.min_eq_left hpl, Nat.sub_self, List.getElem_cons_zero]
  have hp : Led.pos (Led.ky (insK M m)) m.key = Led.pos (Led.ky M) m.key := Led.pos_eq hup _ (by rw [Led.ky_len, insK_len]; omega) (by rw [Led.ky_get _ _ (by rw [insK_len]; omega), hg])
  unfold atM
  rw [hp, List.getD_eq_getElem?_getD, List.getElem?_eq_getElem (by rw [insK_len]; omega), hg]; rfl
theorem do_again {A : List Acc} {M : List Mk} {key : ByteArray} {k : Int} {t : ByteArray} {n : Int} (he : doE A M key k t n = 0) :
    doE (doA A M key k t n) (doM M key k t n) key k t n = 0 ∧ doA (doA A M key k t n) (doM M key k t n) key k t n = doA A M key k t n ∧ doM (doM M key k t n) key k t n = doM M key k t n := by
  have hmay := (Led.may_iff _ _).2 (do_may he)
  obtain ⟨hm, hk, hab, hor⟩ := do_parts he
  have hM := (Led.may_iff A M).1 hm
  have key2 : Led.hasB (Led.ky (doM M key k t n)) key = true ∧ sameB (atM (doM M key k t n) key) k t n = true := by
    rcases hor with ⟨hh, hs⟩ | ⟨hh, _⟩
    · have : doM M key k t n = M := by unfold doM; rw [hh]; rfl
      rw [this]; exact ⟨hh, hs⟩
    · have : doM M key k t n = insK M ⟨key, k, t, n, 1⟩ := by unfold doM; rw [hh]; rfl
      rw [this]
      have hnk : key ∉ Led.ky M := fun h => by rw [(Led.has_iff _ _).2 h] at hh; cases hh
      obtain ⟨h1, h2⟩ := ins_at (m := ⟨key, k, t, n, 1⟩) hM.um hnk
      exact ⟨h1, by rw [show atM (insK M ⟨key, k, t, n, 1⟩) key = ⟨key, k, t, n, 1⟩ from h2]; exact (same_iff _ _ _ _).2 ⟨rfl, rfl, rfl, rfl⟩⟩
  refine ⟨?_, ?_, ?_⟩
  · unfold doE; rw [hmay, hk, hab, key2.1, key2.2]; rfl
  · show (if Led.hasB (Led.ky (doM M key k t n)) key = true then _ else _) = _
    rw [key2.1]; rfl
  · show (if Led.hasB (Led.ky (doM M key k t n)) key = true then _ else _) = _
    rw [key2.1]; rfl
theorem end_parts {C : Act.Ch} {st : Int} {A : List Acc} {M : List Mk} {key : ByteArray} (he : endE C st A M key = 0) : Led.mayB A M = true ∧ Led.keyB key = true ∧ Led.hasB (Led.ky M) key = true ∧ ((atM M key).st = st ∨ ((atM M key).st ≠ st ∧ (atM M key).st = 1)) := by
  unfold endE at he
  by_cases h1 : (Led.mayB A M && Led.keyB key) = true
  · rw [if_pos h1] at he
    rw [Bool.and_eq_true] at h1
    cases hh : Led.hasB (Led.ky M) key with
    | false => rw [hh] at he; cases he
    | true =>
      rw [hh, if_pos rfl] at he
      by_cases h2 : (atM M key).st = st
      · exact ⟨h1.1, h1.2, rfl, Or.inl h2⟩
      · rw [if_neg h2] at he
        by_cases h3 : (atM M key).st = 1
        · exact ⟨h1.1, h1.2, rfl, Or.inr ⟨h2, h3⟩⟩
        · rw [if_neg h3] at he; cases he
  · rw [if_neg h1] at he; cases he
theorem g_pos {M : List Mk} : (∀ s, ∀ m ∈ M, 0 ≤ Led.gFI s m) ∧ (∀ s, ∀ m ∈ M, 0 ≤ Led.gFO s m) ∧ (∀ s, ∀ m ∈ M, 0 ≤ Led.gKI s m) ∧ (∀ s, ∀ m ∈ M, 0 ≤ Led.gKO s m) := by
  refine ⟨fun s m _ => ?_, fun s m _ => ?_, fun s m _ => ?_, fun s m _ => ?_⟩ <;> (first | unfold Led.gFI | unfold Led.gFO | unfold Led.gKI | unfold Led.gKO) <;> split <;> omega
theorem done_mark {A : List Acc} {M : List Mk} {key : ByteArray} (hm : Led.May A M) (hh : key ∈ Led.ky M) (h1 : (atM M key).st = 1) :
    ∃ hp : Led.pos (Led.nm A) (atM M key).t < A.length, A[Led.pos (Led.nm A) (atM M key).t] = atA A (atM M key).t ∧ (atA A (atM M key).t).s = (atM M key).t ∧
    ∃ hq : Led.pos (Led.ky M) key < M.length, M[Led.pos (Led.ky M) key] = atM M key ∧ (atM M key).key = key ∧ Led.mkOk A (atM M key) = true ∧
    (mvX Act.chUn (atA A (atM M key).t) (atM M key).k (atM M key).t (atM M key).n = 0 ∧ mvA Act.chUn (atA A (atM M key).t) (atM M key).k (atM M key).n = Led.shift (atA A (atM M key).t) (-1) (Led.amF (atM M key)) (-max (Led.amF (atM M key)) 0) (-max (-Led.amF (atM M key)) 0) (Led.amK (atM M key)) (-max (Led.amK (atM M key)) 0) (-max (-Led.amK (atM M key)) 0) ∧ Led.accOk (mvA Act.chUn (atA A (atM M key).t) (atM M key).k (atM M key).n) = true) ∧
    (mvX Act.chKe (atA A (atM M key).t) (atM M key).k (atM M key).t (atM M key).n = 0 ∧ mvA Act.chKe (atA A (atM M key).t) (atM M key).k (atM M key).n = Led.shift (atA A (atM M key).t) 0 (Led.amF (atM M key)) (-max (Led.amF (atM M key)) 0) (-max (-Led.amF (atM M key)) 0) (Led.amK (atM M key)) (-max (Led.amK (atM M key)) 0) (-max (-Led.amK (atM M key)) 0) ∧ Led.accOk (mvA Act.chKe (atA A (atM M key).t) (atM M key).k (atM M key).n) = true) := by
  obtain ⟨hq, hmx, hkey⟩ := atM_get hm.um hh
  have hmem : atM M key ∈ M := by rw [← hmx]; exact List.getElem_mem hq
  have hok := hm.om _ hmem
  obtain ⟨_, hab, hta, _⟩ := (Led.mk_iff A _).1 hok
  obtain ⟨hp, hx, hxs⟩ := atA_get hm.ua hta
  have hxm : atA A (atM M key).t ∈ A := by rw [← hx]; exact List.getElem_mem hp
  obtain ⟨p1, p2, p3, p4⟩ := (Led.pots_iff M _).1 (hm.po _ hxm)
  rw [hxs] at p1 p2 p3 p4
  obtain ⟨g1, g2, g3, g4⟩ := g_pos (M := M)
  have q1 := Led.sm_mem (g1 (atM M key).t) hmem
  have q2 := Led.sm_mem (g2 (atM M key).t) hmem
  have q3 := Led.sm_mem (g3 (atM M key).t) hmem
  have q4 := Led.sm_mem (g4 (atM M key).t) hmem
  have hhit := hit_yes h1
  unfold Led.gFI at q1; unfold Led.gFO at q2; unfold Led.gKI at q3; unfold Led.gKO at q4
  rw [if_pos hhit] at q1 q2 q3 q4
  obtain ⟨u, k⟩ := Led.mv_end (x := atA A (atM M key).t) (hm.oa _ hxm) hab hxs.symm (by rw [p1]; exact q1) (by rw [p2]; exact q2) (by rw [p3]; exact q3) (by rw [p4]; exact q4)
  exact ⟨hp, hx, hxs, hq, hmx, hkey, hok, u, k⟩
theorem sm_setG {g : Mk → Int} {M : List Mk} {p : Nat} (h : p < M.length) {m' : Mk} (h0 : g m' = 0) : Led.sm g (M.set p m') = Led.sm g M + -(g M[p]) := by rw [Led.sm_set g M p h m', h0]; omega
theorem end_set {A : List Acc} {M : List Mk} {key : ByteArray} (hm : Led.May A M) (hh : key ∈ Led.ky M) (h1 : (atM M key).st = 1) (st : Int) (hst : st = 2 ∨ st = 3) {y : Acc} {hv : Int}
    (hy : y = Led.shift (atA A (atM M key).t) hv (Led.amF (atM M key)) (-max (Led.amF (atM M key)) 0) (-max (-Led.amF (atM M key)) 0) (Led.amK (atM M key)) (-max (Led.amK (atM M key)) 0) (-max (-Led.amK (atM M key)) 0)) (hok : Led.accOk y = true) :
    Led.May (A.set (Led.pos (Led.nm A) (atM M key).t) y) (M.set (Led.pos (Led.ky M) key) { atM M key with st := st }) := by
  obtain ⟨hp, hx, hxs, hq, hmx, hkey, hmk, _, _⟩ := done_mark hm hh h1
  have hhit := hit_yes h1
  have hno : ∀ s, Led.hit s { atM M key with st := st } = false := fun s => hit_not (Or.inr (by show st ≠ 1; omega))
  have hs : ∀ s, Led.hit s (atM M key) = decide ((atM M key).t = s) := fun s => hit_eq h1
  refine may_change (t := (atM M key).t) (i := -max (Led.amF (atM M key)) 0) (o := -max (-Led.amF (atM M key)) 0) (j := -max (Led.amK (atM M key)) 0) (u := -max (-Led.amK (atM M key)) 0) hm hp (by rw [hx]; exact hxs) (by rw [hy]; exact hxs) hok (by rw [List.length_set]; exact hm.lm) ?_ (by rw [ky_set hq (by rw [hmx])]; exact hm.um) (by rw [hy, hx]; rfl) (by rw [hy, hx]; rfl) (by rw [hy, hx]; rfl) (by rw [hy, hx]; rfl) ?_ ?_ ?_ ?_
  · intro m hmm
    rcases List.mem_or_eq_of_mem_set hmm with hmm | rfl
    · exact hm.om m hmm
    · obtain ⟨a1, a2, a3, a4⟩ := (Led.mk_iff A _).1 hmk
      exact (Led.mk_iff A _).2 ⟨a1, a2, a3, by show 1 ≤ st; omega, by show st ≤ 3; omega⟩
  · intro s
    rw [sm_setG hq (by unfold Led.gFI; rw [hno s]; rfl), hmx]
    unfold Led.gFI; rw [hs s]; by_cases e : (atM M key).t = s
    · rw [if_pos (decide_eq_true e), if_pos e]
    · rw [if_neg (by rw [decide_eq_false e]; decide), if_neg e]; rfl
  · intro s
    rw [sm_setG hq (by unfold Led.gFO; rw [hno s]; rfl), hmx]
    unfold Led.gFO; rw [hs s]; by_cases e : (atM M key).t = s
    · rw [if_pos (decide_eq_true e), if_pos e]
    · rw [if_neg (by rw [decide_eq_false e]; decide), if_neg e]; rfl
  · intro s
    rw [sm_setG hq (by unfold Led.gKI; rw [hno s]; rfl), hmx]
    unfold Led.gKI; rw [hs s]; by_cases e : (atM M key).t = s
    · rw [if_pos (decide_eq_true e), if_pos e]
    · rw [if_neg (by rw [decide_eq_false e]; decide), if_neg e]; rfl
  · intro s
    rw [sm_setG hq (by unfold Led.gKO; rw [hno s]; rfl), hmx]
    unfold Led.gKO; rw [hs s]; by_cases e : (atM M key).t = s
    · rw [if_pos (decide_eq_true e), if_pos e]
    · rw [if_neg (by rw [decide_eq_false e]; decide), if_neg e]; rfl
theorem end_may {C : Act.Ch} {st : Int} {A : List Acc} {M : List Mk} {key : ByteArray} (hC : (C = Act.chUn ∧ st = 2) ∨ (C = Act.chKe ∧ st = 3)) (he : endE C st A M key = 0) : Led.May (endA C st A M key) (endM st M key) := by
  obtain ⟨hm, hk, hh, h1 | ⟨h1, h2⟩⟩ := end_parts he
  · unfold endA endM; rw [if_pos h1, if_pos h1]; exact (Led.may_iff A M).1 hm
  · have hM := (Led.may_iff A M).1 hm
    have hmem := (Led.has_iff _ _).1 hh
    obtain ⟨_, _, _, _, _, _, _, ⟨_, u2, u3⟩, _, k2, k3⟩ := done_mark hM hmem h2
    unfold endA endM; rw [if_neg h1, if_neg h1]
    rcases hC with ⟨rfl, rfl⟩ | ⟨rfl, rfl⟩
    · exact end_set hM hmem h2 2 (Or.inl rfl) u2 u3
    · exact end_set hM hmem h2 3 (Or.inr rfl) k2 k3
end Go.Proofs.Ytgidkmipecfjhaa
namespace Go.Proofs.Ytgidkmipecfjhaa
open Go.RowKit
theorem refFits_any (a : Int) (w : World) :
    Calls Try.prog 54 #[.int .i64 a] w fun e w' => e = .returned (.bool (decide (0 ≤ a) && decide (a ≤ 1000000000000000))) ∧ w' = w := by
  by_cases h0 : 0 ≤ a
  · by_cases h1 : a ≤ 1000000000000000
    · have HF : Hid ((decide (0 ≤ a) && decide (a ≤ 1000000000000000)) = true) := by show _ = _; simp [h0, h1]
      rw [HF.out]
      go_enter Try.func54, Try.ntmps54
      go_wp2
      go_ret
      exact ⟨rfl, rfl⟩
    · have HF : Hid ((decide (0 ≤ a) && decide (a ≤ 1000000000000000)) = false) := by show _ = _; simp [h1]
      rw [HF.out]
      go_enter Try.func54, Try.ntmps54
      go_wp2
      go_ret
      exact ⟨rfl, rfl⟩
  · have HF : Hid ((decide (0 ≤ a) && decide (a ≤ 1000000000000000)) = false) := by show _ = _; simp [h0]
    rw [HF.out]
    go_enter Try.func54, Try.ntmps54
    go_wp2
    go_ret
    exact ⟨rfl, rfl⟩
end Go.Proofs.Ytgidkmipecfjhaa
namespace Go.Proofs.Ytgidkmipecfjhaa
open Go.RowKit
open Led (Acc Mk)
def iv (l : List Int) : List Value := l.map (fun a => .int .i64 a)
theorem own_slice {w : World} {base : Nat} {e : TypeId} {size n : Nat} {v : Value} {xs : List Value} (h : w.ownsRow base e size v n xs) : ∃ a c, v = .slice a n c := by
  obtain ⟨_, ⟨rfl, h0⟩ | ⟨g, cap, cur, rfl, _⟩⟩ := h
  · exact ⟨none, 0, by rw [h0]⟩
  · exact ⟨_, _, rfl⟩
structure NetM (w : World) (base F1 F2 : Nat) (b1 b2 v1 v2 : Value) (fs ks : List Int) : Prop where
  c1 : w.cell? ⟨F1, 0, none⟩ = some b1
  c2 : w.cell? ⟨F2, 0, none⟩ = some b2
  z1 : w.frozen? ⟨F1, 0, none⟩ = false
  z2 : w.frozen? ⟨F2, 0, none⟩ = false
  o1 : w.ownsRow base 2 1 v1 fs.length (iv fs)
  o2 : w.ownsRow base 2 1 v2 ks.length (iv ks)
  ap : ∀ g, v1.ownBlock = some g → v2.ownBlock ≠ some g
  l1 : F1 < base
  l2 : F2 < base
  ne : F1 ≠ F2
  bs : base ≤ w.heap.size
variable {w w' : World} {base F1 F2 : Nat} {b1 b2 v1 v2 : Value} {fs ks : List Int}
theorem NetM.gr (h : NetM w base F1 F2 b1 b2 v1 v2 fs ks) (g : Gr w w') : NetM w' base F1 F2 b1 b2 v1 v2 fs ks := by
  have h1 := h.l1; have h2 := h.l2; have h3 := h.bs
  exact ⟨g.keep h.c1, g.keep h.c2, g.keepF (by show F1 < _; omega) h.z1, g.keepF (by show F2 < _; omega) h.z2, own_gr2 h.o1 g, own_gr2 h.o2 g, h.ap, h1, h2, h.ne, Nat.le_trans h3 g.size⟩
theorem grown_frozen {row : Option Nat} (hg : w.grownBy w' row) {a : Addr} (hb : a.block < w.heap.size) (hne : some a.block ≠ row) (h : w.frozen? a = false) : w'.frozen? a = false := by
  rw [World.frozen?_of_block (hg.block _ hb hne)]; exact h
theorem NetM.app1 (h : NetM w base F1 F2 b1 b2 v1 v2 fs ks) {u : Value} {x : Int} (ho : w'.ownsRow base 2 1 u (fs.length + 1) (iv fs ++ [.int .i64 x])) (hg : w.grownBy w' v1.ownBlock) (hat : u.ownBlock = v1.ownBlock ∨ u.ownBlock = some w.heap.size) :
    NetM w' base F1 F2 b1 b2 u v2 (fs ++ [x]) ks := by
  have h1 := h.l1; have h2 := h.l2; have h3 := h.bs
  have n1 : some F1 ≠ v1.ownBlock := fun e => by have := (h.o1.lt _ e.symm).1; omega
  have n2 : some F2 ≠ v1.ownBlock := fun e => by have := (h.o1.lt _ e.symm).1; omega
  refine ⟨hg.cell h.c1 n1, hg.cell h.c2 n2, grown_frozen hg (by show F1 < _; omega) n1 h.z1, grown_frozen hg (by show F2 < _; omega) n2 h.z2, ?_, h.o2.kept hg ?_, ?_, h1, h2, h.ne, Nat.le_trans h3 hg.size⟩
  · have : iv (fs ++ [x]) = iv fs ++ [.int .i64 x] := by unfold iv; simp
    rw [this, List.length_append]; exact ho
  · cases hv : v2.ownBlock with
    | none => exact Or.inl rfl
    | some g => exact Or.inr fun e => h.ap g e.symm hv
  · intro g hu hv
    rcases hat with e | e
    · exact h.ap g (by rw [← e]; exact hu) hv
    · rw [e] at hu; cases hu
      have := (h.o2.lt _ hv).2; omega
theorem NetM.app2 (h : NetM w base F1 F2 b1 b2 v1 v2 fs ks) {u : Value} {x : Int} (ho : w'.ownsRow base 2 1 u (ks.length + 1) (iv ks ++ [.int .i64 x])) (hg : w.grownBy w' v2.ownBlock) (hat : u.ownBlock = v2.ownBlock ∨ u.ownBlock = some w.heap.size) :
    NetM w' base F1 F2 b1 b2 v1 u fs (ks ++ [x]) := by
  have h1 := h.l1; have h2 := h.l2; have h3 := h.bs
  have n1 : some F1 ≠ v2.ownBlock := fun e => by have := (h.o2.lt _ e.symm).1; omega
  have n2 : some F2 ≠ v2.ownBlock := fun e => by have := (h.o2.lt _ e.symm).1; omega
  refine ⟨hg.cell h.c1 n1, hg.cell h.c2 n2, grown_frozen hg (by show F1 < _; omega) n1 h.z1, grown_frozen hg (by show F2 < _; omega) n2 h.z2, h.o1.kept hg ?_, ?_, ?_, h1, h2, h.ne, Nat.le_trans h3 hg.size⟩
  · cases hv : v1.ownBlock with
    | none => exact Or.inl rfl
    | some g => exact Or.inr fun e => h.ap g hv e.symm
  · have : iv (ks ++ [x]) = iv ks ++ [.int .i64 x] := by unfold iv; simp
    rw [this, List.length_append]; exact ho
  · intro g hu hv
    rcases hat with e | e
    · exact h.ap g hu (by rw [← e]; exact hv)
    · rw [e] at hv; cases hv
      have := (h.o1.lt _ hu).2; omega
end Go.Proofs.Ytgidkmipecfjhaa
