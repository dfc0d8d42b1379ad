/- What the proof is made of, part 18. -/
import Derived.Test.YtgidkmipecfjhaaTLLMays17
import Derived.BigQuiet
import Derived.Test.YtgidkmipecfjhaaRows
import Derived.ProofKit
import Derived.OpenShut
import Derived.Deep.SlicePairs
import Derived.Deep.Strs
import Derived.Deep.DeepCutAuto
namespace Go.Proofs.Ytgidkmipecfjhaa
open Led (Acc Mk)
theorem nm_set {A : List Acc} {p : Nat} {y : Acc} (hp : p < A.length) (hy : y.s = A[p].s) : Led.nm (A.set p y) = Led.nm A := by
  unfold Led.nm
  rw [List.map_set, hy]
  have : (A.map Acc.s)[p]'(by simpa using hp) = A[p].s := by simp
  rw [← this]; exact List.set_getElem_self _
theorem ky_set {M : List Mk} {p : Nat} {y : Mk} (hp : p < M.length) (hy : y.key = M[p].key) : Led.ky (M.set p y) = Led.ky M := by
  unfold Led.ky
  rw [List.map_set, hy]
  have : (M.map Mk.key)[p]'(by simpa using hp) = M[p].key := by simp
  rw [← this]; exact List.set_getElem_self _
theorem mkOk_nm {A A' : List Acc} (h : Led.nm A' = Led.nm A) (m : Mk) : Led.mkOk A' m = Led.mkOk A m := by unfold Led.mkOk; rw [h]
theorem may_change {A : List Acc} {M M' : List Mk} {p : Nat} {y : Acc} {t : ByteArray} {i o j u : Int} (h : Led.May A M) (hp : p < A.length) (ht : A[p].s = t) (hy : y.s = t) (hok : Led.accOk y = true) (hl : M'.length ≤ 500) (ho : ∀ m ∈ M', Led.mkOk A m = true) (hu : Led.upB (Led.ky M') = true)
    (hb : y.b = A[p].b + i) (hc : y.c = A[p].c + o) (hyy : y.y = A[p].y + j) (hz : y.z = A[p].z + u)
    (s1 : ∀ s, Led.sm (Led.gFI s) M' = Led.sm (Led.gFI s) M + if t = s then i else 0) (s2 : ∀ s, Led.sm (Led.gFO s) M' = Led.sm (Led.gFO s) M + if t = s then o else 0)
    (s3 : ∀ s, Led.sm (Led.gKI s) M' = Led.sm (Led.gKI s) M + if t = s then j else 0) (s4 : ∀ s, Led.sm (Led.gKO s) M' = Led.sm (Led.gKO s) M + if t = s then u else 0) : Led.May (A.set p y) M' := by
  have hn := nm_set hp (hy.trans ht.symm)
  refine ⟨by rw [List.length_set]; exact h.la, ?_, by rw [hn]; exact h.ua, hl, fun m hm => by rw [mkOk_nm hn]; exact ho m hm, hu, ?_⟩
  · intro x hx
    rcases List.mem_or_eq_of_mem_set hx with hx | rfl
    · exact h.oa x hx
    · exact hok
  · intro x hx
    obtain ⟨q, hq, rfl⟩ := List.getElem_of_mem hx
    rw [List.length_set] at hq
    rw [List.getElem_set]
    by_cases e : p = q
    · subst e
      rw [if_pos rfl]
      obtain ⟨p1, p2, p3, p4⟩ := (Led.pots_iff M A[p]).1 (h.po _ (List.getElem_mem hp))
      refine (Led.pots_iff M' y).2 ?_
      rw [hy, s1, s2, s3, s4, if_pos rfl, if_pos rfl, if_pos rfl, if_pos rfl, hb, hc, hyy, hz, p1, p2, p3, p4, ht]
      exact ⟨rfl, rfl, rfl, rfl⟩
    · rw [if_neg e]
      have hne : t ≠ A[q].s := fun e2 => e (by
        have e3 := Led.nm_get A p hp
        have e4 := Led.nm_get A q hq
        exact Led.up_one h.ua (by rw [Led.nm_len]; exact hp) (by rw [Led.nm_len]; exact hq) (by rw [e3, e4, ht, e2]))
      obtain ⟨p1, p2, p3, p4⟩ := (Led.pots_iff M A[q]).1 (h.po _ (List.getElem_mem hq))
      refine (Led.pots_iff M' A[q]).2 ?_
      rw [s1, s2, s3, s4, if_neg hne, if_neg hne, if_neg hne, if_neg hne]
      omega
theorem atA_get {A : List Acc} {t : ByteArray} (hu : Led.upB (Led.nm A) = true) (h : t ∈ Led.nm A) : ∃ hp : Led.pos (Led.nm A) t < A.length, A[Led.pos (Led.nm A) t] = atA A t ∧ (atA A t).s = t := by
  obtain ⟨hp, e⟩ := Led.pos_mem hu h
  rw [Led.nm_len] at hp
  have hx : A[Led.pos (Led.nm A) t] = atA A t := by unfold atA; rw [List.getD_eq_getElem?_getD, List.getElem?_eq_getElem hp]; rfl
  refine ⟨hp, hx, ?_⟩
  rw [← hx, ← Led.nm_get A _ hp]; exact e
theorem atM_get {M : List Mk} {key : ByteArray} (hu : Led.upB (Led.ky M) = true) (h : key ∈ Led.ky M) : ∃ hp : Led.pos (Led.ky M) key < M.length, M[Led.pos (Led.ky M) key] = atM M key ∧ (atM M key).key = key := by
  obtain ⟨hp, e⟩ := Led.pos_mem hu h
  rw [Led.ky_len] at hp
  have hx : M[Led.pos (Led.ky M) key] = atM M key := by unfold atM; rw [List.getD_eq_getElem?_getD, List.getElem?_eq_getElem hp]; rfl
  refine ⟨hp, hx, ?_⟩
  rw [← hx, ← Led.ky_get M _ hp]; exact e
theorem mem_ins {α : Type} {L : List α} {p : Nat} {x y : α} (h : y ∈ L.take p ++ x :: L.drop p) : y = x ∨ y ∈ L := by
  rcases List.mem_append.1 h with h | h
  · exact Or.inr (List.mem_of_mem_take h)
  · rcases List.mem_cons.1 h with h | h
    · exact Or.inl h
    · exact Or.inr (List.mem_of_mem_drop h)
theorem open_parts {A : List Acc} {M : List Mk} {s : ByteArray} {n : Int} (he : openE A M s n = 0) : Led.mayB A M = true ∧ Act.nameB s = true ∧ fitsB n = true ∧ Led.hasB (Led.nm A) s = false ∧ A.length < 12 := by
  unfold openE at he
  by_cases h1 : (Led.mayB A M && (Act.nameB s && fitsB n)) = true
  · rw [if_pos h1] at he
    rw [Bool.and_eq_true, Bool.and_eq_true] at h1
    cases hh : Led.hasB (Led.nm A) s with
    | true => rw [hh] at he; cases he
    | false =>
      rw [hh] at he
      by_cases hl : 12 ≤ A.length
      · rw [if_pos hl] at he; cases he
      · exact ⟨h1.1, h1.2.1, h1.2.2, rfl, by omega⟩
  · rw [if_neg h1] at he; cases he
theorem nm_open (A : List Acc) (s : ByteArray) (n : Int) : Led.nm (openA A s n) = (Led.nm A).take (Led.pos (Led.nm A) s) ++ s :: (Led.nm A).drop (Led.pos (Led.nm A) s) := by
  unfold openA
  show List.map Acc.s (_ ++ _ :: _) = _
  rw [List.map_append, List.map_cons, List.map_take, List.map_drop]; rfl
theorem open_may {A : List Acc} {M : List Mk} {s : ByteArray} {n : Int} (he : openE A M s n = 0) : Led.May (openA A s n) M := by
  obtain ⟨hm, hn, hf, hh, hl⟩ := open_parts he
  have hM := (Led.may_iff A M).1 hm
  have hns : s ∉ Led.nm A := fun h => by rw [(Led.has_iff _ _).2 h] at hh; cases hh
  unfold fitsB at hf
  simp only [Bool.and_eq_true, decide_eq_true_eq] at hf
  refine ⟨by rw [open_len]; omega, ?_, by rw [nm_open]; exact Led.up_ins hM.ua hns, hM.lm, ?_, hM.um, ?_⟩
  · intro x hx
    rcases mem_ins hx with rfl | hx
    · exact (Act.acc_iff _ _ _ _ _ _ _).2 ⟨hn, (Pot.may_iff _ _ _).2 ⟨by show (0 : Int) ≤ 0; omega, hf.1, by show (0 : Int) ≤ 0; omega, by show n + 0 ≤ 1000000000000000; omega⟩, (Pot.may_iff _ _ _).2 ⟨by show (0 : Int) ≤ 0; omega, by show (0 : Int) ≤ 0; omega, by show (0 : Int) ≤ 0; omega, by show (0 : Int) + 0 ≤ 1000000000000000; omega⟩⟩
    · exact hM.oa x hx
  · intro m hm
    obtain ⟨h1, h2, h3, h4⟩ := (Led.mk_iff A m).1 (hM.om m hm)
    refine (Led.mk_iff _ m).2 ⟨h1, h2, ?_, h4⟩
    rw [nm_open]
    rw [← List.take_append_drop (Led.pos (Led.nm A) s) (Led.nm A)] at h3
    rcases List.mem_append.1 h3 with h | h
    · exact List.mem_append.2 (Or.inl h)
    · exact List.mem_append.2 (Or.inr (List.mem_cons.2 (Or.inr h)))
  · intro x hx
    rcases mem_ins hx with rfl | hx
    · have hz : ∀ m ∈ M, Led.hit s m = false := fun m hm => hit_not (Or.inl fun e => hns (by rw [← e]; exact ((Led.mk_iff A m).1 (hM.om m hm)).2.2.1))
      refine (Led.pots_iff M _).2 ⟨?_, ?_, ?_, ?_⟩
      · exact (Led.sm_zero (fun m hm => by unfold Led.gFI; show (if Led.hit s m = true then _ else _) = _; rw [hz m hm]; rfl)).symm
      · exact (Led.sm_zero (fun m hm => by unfold Led.gFO; show (if Led.hit s m = true then _ else _) = _; rw [hz m hm]; rfl)).symm
      · exact (Led.sm_zero (fun m hm => by unfold Led.gKI; show (if Led.hit s m = true then _ else _) = _; rw [hz m hm]; rfl)).symm
      · exact (Led.sm_zero (fun m hm => by unfold Led.gKO; show (if Led.hit s m = true then _ else _) = _; rw [hz m hm]; rfl)).symm
    · exact hM.po x hx
theorem do_parts {A : List Acc} {M : List Mk} {key : ByteArray} {k : Int} {t : ByteArray} {n : Int} (he : doE A M key k t n = 0) : Led.mayB A M = true ∧ Led.keyB key = true ∧ Act.actB k t n = true ∧ ((Led.hasB (Led.ky M) key = true ∧ sameB (atM M key) k t n = true) ∨ (Led.hasB (Led.ky M) key = false ∧ Led.hasB (Led.nm A) t = true ∧ M.length < 500 ∧ mvX Act.chDo (atA A t) k t n = 0)) := by
  unfold doE at he
  by_cases h1 : (Led.mayB A M && Led.keyB key) = true
  · rw [if_pos h1] at he
    rw [Bool.and_eq_true] at h1
    cases hab : Act.actB k t n with
    | false => rw [hab] at he; cases he
    | true =>
      rw [hab, if_pos rfl] at he
      cases hh : Led.hasB (Led.ky M) key with
      | true =>
        rw [hh, if_pos rfl] at he
        cases hq : sameB (atM M key) k t n with
        | false => rw [hq] at he; cases he
        | true => exact ⟨h1.1, h1.2, rfl, Or.inl ⟨rfl, rfl⟩⟩
      | false =>
        rw [hh, if_neg (by decide)] at he
        unfold begE at he
        cases ha : Led.hasB (Led.nm A) t with
        | false => rw [ha] at he; cases he
        | true =>
          rw [ha, if_pos rfl] at he
          by_cases hl : 500 ≤ M.length
          · rw [if_pos hl] at he; cases he
          · rw [if_neg hl] at he; exact ⟨h1.1, h1.2, rfl, Or.inr ⟨rfl, rfl, by omega, he⟩⟩
  · rw [if_neg h1] at he; cases he
theorem key_rng {key : ByteArray} (h : Led.keyB key = true) : 0 < key.size ∧ key.size ≤ 100 := by
  unfold Led.keyB at h
  simp only [Bool.and_eq_true, decide_eq_true_eq] at h
  exact h
theorem ky_ins (M : List Mk) (m : Mk) : Led.ky (insK M m) = (Led.ky M).take (Led.pos (Led.ky M) m.key) ++ m.key :: (Led.ky M).drop (Led.pos (Led.ky M) m.key) := by
  unfold insK
  show List.map Mk.key (_ ++ _ :: _) = _
  rw [List.map_append, List.map_cons, List.map_take, List.map_drop]; rfl
theorem hit_eq {s : ByteArray} {m : Mk} (h : m.st = 1) : Led.hit s m = decide (m.t = s) := by unfold Led.hit; rw [decide_eq_true h, Bool.and_true]
theorem do_new {A : List Acc} {M : List Mk} {key : ByteArray} {k : Int} {t : ByteArray} {n : Int} (hm : Led.May A M) (hk : Led.keyB key = true) (hab : Act.actB k t n = true) (hh : Led.hasB (Led.ky M) key = false) (ha : Led.hasB (Led.nm A) t = true) (hl : M.length < 500) (hmv : mvX Act.chDo (atA A t) k t n = 0) :
    Led.May (A.set (Led.pos (Led.nm A) t) (mvA Act.chDo (atA A t) k n)) (insK M ⟨key, k, t, n, 1⟩) := by
  obtain ⟨hp, hx, hxs⟩ := atA_get hm.ua ((Led.has_iff _ _).1 ha)
  obtain ⟨_, _, _, hva, hok⟩ := Led.mv_do (x := atA A t) (k := k) (t := t) (n := n) hmv
  have hva' : mvA Act.chDo (atA A t) k n = Led.shift (atA A t) 1 (Act.dF k t n) (max (Act.dF k t n) 0) (max (-Act.dF k t n) 0) (Act.dK k t n) (max (Act.dK k t n) 0) (max (-Act.dK k t n) 0) := hva
  have hnk : key ∉ Led.ky M := fun h => by rw [(Led.has_iff _ _).2 h] at hh; cases hh
  refine may_change (t := t) (i := max (Act.dF k t n) 0) (o := max (-Act.dF k t n) 0) (j := max (Act.dK k t n) 0) (u := max (-Act.dK k t n) 0) hm hp (by rw [hx]; exact hxs) (by show (atA A t).s = t; exact hxs) hok (by rw [insK_len]; omega) ?_ (by rw [ky_ins]; exact Led.up_ins hm.um hnk) (by rw [hva', hx]; rfl) (by rw [hva', hx]; rfl) (by rw [hva', hx]; rfl) (by rw [hva', hx]; rfl) ?_ ?_ ?_ ?_
  · intro m hmm
    rcases mem_ins hmm with rfl | hmm
    · exact (Led.mk_iff A _).2 ⟨key_rng hk, hab, (Led.has_iff _ _).1 ha, by show (1 : Int) ≤ 1; omega, by show (1 : Int) ≤ 3; omega⟩
    · exact hm.om m hmm
  · intro s
    show Led.sm _ (_ ++ _ :: _) = _
    rw [Led.sm_ins]; unfold Led.gFI; rw [hit_eq rfl]; simp only [decide_eq_true_eq]; rfl
  · intro s
    show Led.sm _ (_ ++ _ :: _) = _
    rw [Led.sm_ins]; unfold Led.gFO; rw [hit_eq rfl]; simp only [decide_eq_true_eq]; rfl
  · intro s
    show Led.sm _ (_ ++ _ :: _) = _
    rw [Led.sm_ins]; unfold Led.gKI; rw [hit_eq rfl]; simp only [decide_eq_true_eq]; rfl
  · intro s
    show Led.sm _ (_ ++ _ :: _) = _
    rw [Led.sm_ins]; unfold Led.gKO; rw [hit_eq rfl]; simp only [decide_eq_true_eq]; rfl
theorem do_may {A : List Acc} {M : List Mk} {key : ByteArray} {k : Int} {t : ByteArray} {n : Int} (he : doE A M key k t n = 0) : Led.May (doA A M key k t n) (doM M key k t n) := by
  obtain ⟨hm, hk, hab, ⟨hh, _⟩ | ⟨hh, ha, hl, hmv⟩⟩ := do_parts he
  · unfold doA doM; rw [hh, if_pos rfl, if_pos rfl]; exact (Led.may_iff A M).1 hm
  · unfold doA doM; rw [hh, if_neg (by decide), if_neg (by decide)]
    exact do_new ((Led.may_iff A M).1 hm) hk hab hh ha hl hmv
theorem ins_at {M : List Mk} {m : Mk} (hu : Led.upB (Led.ky M) = true) (hn : m.key ∉ Led.ky M) : Led.hasB (Led.ky (insK M m)) m.key = true ∧ atM (insK M m) m.key = m := by
  have hmem : m.key ∈ Led.ky (insK M m) := by rw [ky_ins]; exact List.mem_append.2 (Or.inr (List.mem_cons.2 (Or.inl rfl)))
  have hup : Led.upB (Led.ky (insK M m)) = true := by rw [ky_ins]; exact Led.up_ins hu hn
  refine ⟨(Led.has_iff _ _).2 hmem, ?_⟩
  have hpl : Led.pos (Led.ky M) m.key ≤ M.length := by have := Led.pos_le (Led.ky M) m.key; rw [Led.ky_len] at this; exact this
  have hg : (insK M m)[Led.pos (Led.ky M) m.key]'(by rw [insK_len]; omega) = m := by
    unfold insK
    rw [List.getElem_append_right (by rw [List.length_take]; omega)]
    simp only [List.length_take, Nat.min_eq_left hpl, Nat.sub_self, List.getElem_cons_zero]
  have hp : Led.pos (Led.ky (insK M m)) m.key = Led.pos (Led.ky M) m.key := Led.pos_eq hup _ (by rw [Led.ky_len, insK_len]; omega) (by rw [Led.ky_get _ _ (by rw [insK_len]; omega), hg])
  unfold atM
  rw [hp, List.getD_eq_getElem?_getD, List.getElem?_eq_getElem (by rw [insK_len]; omega), hg]; rfl
theorem do_again {A : List Acc} {M : List Mk} {key : ByteArray} {k : Int} {t : ByteArray} {n : Int} (he : doE A M key k t n = 0) :
    doE (doA A M key k t n) (doM M key k t n) key k t n = 0 ∧ doA (doA A M key k t n) (doM M key k t n) key k t n = doA A M key k t n ∧ doM (doM M key k t n) key k t n = doM M key k t n := by
  have hmay := (Led.may_iff _ _).2 (do_may he)
  obtain ⟨hm, hk, hab, hor⟩ := do_parts he
  have hM := (Led.may_iff A M).1 hm
  have key2 : Led.hasB (Led.ky (doM M key k t n)) key = true ∧ sameB (atM (doM M key k t n) key) k t n = true := by
    rcases hor with ⟨hh, hs⟩ | ⟨hh, _⟩
    · have : doM M key k t n = M := by unfold doM; rw [hh]; rfl
      rw [this]; exact ⟨hh, hs⟩
    · have : doM M key k t n = insK M ⟨key, k, t, n, 1⟩ := by unfold doM; rw [hh]; rfl
      rw [this]
      have hnk : key ∉ Led.ky M := fun h => by rw [(Led.has_iff _ _).2 h] at hh; cases hh
      obtain ⟨h1, h2⟩ := ins_at (m := ⟨key, k, t, n, 1⟩) hM.um hnk
      exact ⟨h1, by rw [show atM (insK M ⟨key, k, t, n, 1⟩) key = ⟨key, k, t, n, 1⟩ from h2]; exact (same_iff _ _ _ _).2 ⟨rfl, rfl, rfl, rfl⟩⟩
  refine ⟨?_, ?_, ?_⟩
  · unfold doE; rw [hmay, hk, hab, key2.1, key2.2]; rfl
  · show (if Led.hasB (Led.ky (doM M key k t n)) key = true then _ else _) = _
    rw [key2.1]; rfl
  · show (if Led.hasB (Led.ky (doM M key k t n)) key = true then _ else _) = _
    rw [key2.1]; rfl
theorem end_parts {C : Act.Ch} {st : Int} {A : List Acc} {M : List Mk} {key : ByteArray} (he : endE C st A M key = 0) : Led.mayB A M = true ∧ Led.keyB key = true ∧ Led.hasB (Led.ky M) key = true ∧ ((atM M key).st = st ∨ ((atM M key).st ≠ st ∧ (atM M key).st = 1)) := by
  unfold endE at he
  by_cases h1 : (Led.mayB A M && Led.keyB key) = true
  · rw [if_pos h1] at he
    rw [Bool.and_eq_true] at h1
    cases hh : Led.hasB (Led.ky M) key with
    | false => rw [hh] at he; cases he
    | true =>
      rw [hh, if_pos rfl] at he
      by_cases h2 : (atM M key).st = st
      · exact ⟨h1.1, h1.2, rfl, Or.inl h2⟩
      · rw [if_neg h2] at he
        by_cases h3 : (atM M key).st = 1
        · exact ⟨h1.1, h1.2, rfl, Or.inr ⟨h2, h3⟩⟩
        · rw [if_neg h3] at he; cases he
  · rw [if_neg h1] at he; cases he
theorem g_pos {M : List Mk} : (∀ s, ∀ m ∈ M, 0 ≤ Led.gFI s m) ∧ (∀ s, ∀ m ∈ M, 0 ≤ Led.gFO s m) ∧ (∀ s, ∀ m ∈ M, 0 ≤ Led.gKI s m) ∧ (∀ s, ∀ m ∈ M, 0 ≤ Led.gKO s m) := by
  refine ⟨fun s m _ => ?_, fun s m _ => ?_, fun s m _ => ?_, fun s m _ => ?_⟩ <;> (first | unfold Led.gFI | unfold Led.gFO | unfold Led.gKI | unfold Led.gKO) <;> split <;> omega
theorem done_mark {A : List Acc} {M : List Mk} {key : ByteArray} (hm : Led.May A M) (hh : key ∈ Led.ky M) (h1 : (atM M key).st = 1) :
    ∃ hp : Led.pos (Led.nm A) (atM M key).t < A.length, A[Led.pos (Led.nm A) (atM M key).t] = atA A (atM M key).t ∧ (atA A (atM M key).t).s = (atM M key).t ∧
    ∃ hq : Led.pos (Led.ky M) key < M.length, M[Led.pos (Led.ky M) key] = atM M key ∧ (atM M key).key = key ∧ Led.mkOk A (atM M key) = true ∧
    (mvX Act.chUn (atA A (atM M key).t) (atM M key).k (atM M key).t (atM M key).n = 0 ∧ mvA Act.chUn (atA A (atM M key).t) (atM M key).k (atM M key).n = Led.shift (atA A (atM M key).t) (-1) (Led.amF (atM M key)) (-max (Led.amF (atM M key)) 0) (-max (-Led.amF (atM M key)) 0) (Led.amK (atM M key)) (-max (Led.amK (atM M key)) 0) (-max (-Led.amK (atM M key)) 0) ∧ Led.accOk (mvA Act.chUn (atA A (atM M key).t) (atM M key).k (atM M key).n) = true) ∧
    (mvX Act.chKe (atA A (atM M key).t) (atM M key).k (atM M key).t (atM M key).n = 0 ∧ mvA Act.chKe (atA A (atM M key).t) (atM M key).k (atM M key).n = Led.shift (atA A (atM M key).t) 0 (Led.amF (atM M key)) (-max (Led.amF (atM M key)) 0) (-max (-Led.amF (atM M key)) 0) (Led.amK (atM M key)) (-max (Led.amK (atM M key)) 0) (-max (-Led.amK (atM M key)) 0) ∧ Led.accOk (mvA Act.chKe (atA A (atM M key).t) (atM M key).k (atM M key).n) = true) := by
  obtain ⟨hq, hmx, hkey⟩ := atM_get hm.um hh
  have hmem : atM M key ∈ M := by rw [← hmx]; exact List.getElem_mem hq
  have hok := hm.om _ hmem
  obtain ⟨_, hab, hta, _⟩ := (Led.mk_iff A _).1 hok
  obtain ⟨hp, hx, hxs⟩ := atA_get hm.ua hta
  have hxm : atA A (atM M key).t ∈ A := by rw [← hx]; exact List.getElem_mem hp
  obtain ⟨p1, p2, p3, p4⟩ := (Led.pots_iff M _).1 (hm.po _ hxm)
  rw [hxs] at p1 p2 p3 p4
  obtain ⟨g1, g2, g3, g4⟩ := g_pos (M := M)
  have q1 := Led.sm_mem (g1 (atM M key).t) hmem
  have q2 := Led.sm_mem (g2 (atM M key).t) hmem
  have q3 := Led.sm_mem (g3 (atM M key).t) hmem
  have q4 := Led.sm_mem (g4 (atM M key).t) hmem
  have hhit := hit_yes h1
  unfold Led.gFI at q1; unfold Led.gFO at q2; unfold Led.gKI at q3; unfold Led.gKO at q4
  rw [if_pos hhit] at q1 q2 q3 q4
  obtain ⟨u, k⟩ := Led.mv_end (x := atA A (atM M key).t) (hm.oa _ hxm) hab hxs.symm (by rw [p1]; exact q1) (by rw [p2]; exact q2) (by rw [p3]; exact q3) (by rw [p4]; exact q4)
  exact ⟨hp, hx, hxs, hq, hmx, hkey, hok, u, k⟩
theorem sm_setG {g : Mk → Int} {M : List Mk} {p : Nat} (h : p < M.length) {m' : Mk} (h0 : g m' = 0) : Led.sm g (M.set p m') = Led.sm g M + -(g M[p]) := by rw [Led.sm_set g M p h m', h0]; omega
theorem end_set {A : List Acc} {M : List Mk} {key : ByteArray} (hm : Led.May A M) (hh : key ∈ Led.ky M) (h1 : (atM M key).st = 1) (st : Int) (hst : st = 2 ∨ st = 3) {y : Acc} {hv : Int}
    (hy : y = Led.shift (atA A (atM M key).t) hv (Led.amF (atM M key)) (-max (Led.amF (atM M key)) 0) (-max (-Led.amF (atM M key)) 0) (Led.amK (atM M key)) (-max (Led.amK (atM M key)) 0) (-max (-Led.amK (atM M key)) 0)) (hok : Led.accOk y = true) :
    Led.May (A.set (Led.pos (Led.nm A) (atM M key).t) y) (M.set (Led.pos (Led.ky M) key) { atM M key with st := st }) := by
  obtain ⟨hp, hx, hxs, hq, hmx, hkey, hmk, _, _⟩ := done_mark hm hh h1
  have hhit := hit_yes h1
  have hno : ∀ s, Led.hit s { atM M key with st := st } = false := fun s => hit_not (Or.inr (by show st ≠ 1; omega))
  have hs : ∀ s, Led.hit s (atM M key) = decide ((atM M key).t = s) := fun s => hit_eq h1
  refine may_change (t := (atM M key).t) (i := -max (Led.amF (atM M key)) 0) (o := -max (-Led.amF (atM M key)) 0) (j := -max (Led.amK (atM M key)) 0) (u := -max (-Led.amK (atM M key)) 0) hm hp (by rw [hx]; exact hxs) (by rw [hy]; exact hxs) hok (by rw [List.length_set]; exact hm.lm) ?_ (by rw [ky_set hq (by rw [hmx])]; exact hm.um) (by rw [hy, hx]; rfl) (by rw [hy, hx]; rfl) (by rw [hy, hx]; rfl) (by rw [hy, hx]; rfl) ?_ ?_ ?_ ?_
  · intro m hmm
    rcases List.mem_or_eq_of_mem_set hmm with hmm | rfl
    · exact hm.om m hmm
    · obtain ⟨a1, a2, a3, a4⟩ := (Led.mk_iff A _).1 hmk
      exact (Led.mk_iff A _).2 ⟨a1, a2, a3, by show 1 ≤ st; omega, by show st ≤ 3; omega⟩
  · intro s
    rw [sm_setG hq (by unfold Led.gFI; rw [hno s]; rfl), hmx]
    unfold Led.gFI; rw [hs s]; by_cases e : (atM M key).t = s
    · rw [if_pos (decide_eq_true e), if_pos e]
    · rw [if_neg (by rw [decide_eq_false e]; decide), if_neg e]; rfl
  · intro s
    rw [sm_setG hq (by unfold Led.gFO; rw [hno s]; rfl), hmx]
    unfold Led.gFO; rw [hs s]; by_cases e : (atM M key).t = s
    · rw [if_pos (decide_eq_true e), if_pos e]
    · rw [if_neg (by rw [decide_eq_false e]; decide), if_neg e]; rfl
  · intro s
    rw [sm_setG hq (by unfold Led.gKI; rw [hno s]; rfl), hmx]
    unfold Led.gKI; rw [hs s]; by_cases e : (atM M key).t = s
    · rw [if_pos (decide_eq_true e), if_pos e]
    · rw [if_neg (by rw [decide_eq_false e]; decide), if_neg e]; rfl
  · intro s
    rw [sm_setG hq (by unfold Led.gKO; rw [hno s]; rfl), hmx]
    unfold Led.gKO; rw [hs s]; by_cases e : (atM M key).t = s
    · rw [if_pos (decide_eq_true e), if_pos e]
    · rw [if_neg (by rw [decide_eq_false e]; decide), if_neg e]; rfl
theorem end_may {C : Act.Ch} {st : Int} {A : List Acc} {M : List Mk} {key : ByteArray} (hC : (C = Act.chUn ∧ st = 2) ∨ (C = Act.chKe ∧ st = 3)) (he : endE C st A M key = 0) : Led.May (endA C st A M key) (endM st M key) := by
  obtain ⟨hm, hk, hh, h1 | ⟨h1, h2⟩⟩ := end_parts he
  · unfold endA endM; rw [if_pos h1, if_pos h1]; exact (Led.may_iff A M).1 hm
  · have hM := (Led.may_iff A M).1 hm
    have hmem := (Led.has_iff _ _).1 hh
    obtain ⟨_, _, _, _, _, _, _, ⟨_, u2, u3⟩, _, k2, k3⟩ := done_mark hM hmem h2
    unfold endA endM; rw [if_neg h1, if_neg h1]
    rcases hC with ⟨rfl, rfl⟩ | ⟨rfl, rfl⟩
    · exact end_set hM hmem h2 2 (Or.inl rfl) u2 u3
    · exact end_set hM hmem h2 3 (Or.inr rfl) k2 k3
end Go.Proofs.Ytgidkmipecfjhaa
namespace Go.Proofs.Ytgidkmipecfjhaa
open Go.RowKit
open Led (Acc Mk)
structure Cal where
  kd : Int
  key : ByteArray
  k : Int
  t : ByteArray
  n : Int
theorem may_ranges {A : List Acc} {M : List Mk} (hm : Led.May A M) : (∀ x ∈ A, inA x) ∧ (∀ m ∈ M, inM m) := by
  refine ⟨fun x hx => ?_, fun m hx => ?_⟩
  · have h := hm.oa x hx
    have r := Act.acc_rng h
    have n := (Act.name_pos ((Act.acc_iff _ _ _ _ _ _ _).1 h).1).2
    unfold inA inI
    omega
  · obtain ⟨h1, h2, _, h4⟩ := (Led.mk_iff A m).1 (hm.om m hx)
    obtain ⟨⟨k1, k2⟩, hn, n1, n2⟩ := (Act.act_iff _ _ _).1 h2
    have n := (Act.name_pos hn).2
    unfold inM inI
    omega
theorem led_of {w : World} {a1 a2 : Option Addr} {A : List Acc} {M : List Mk} (hm : Led.May A M) (h1 : AccsAt w a1 A) (h2 : MksAt w a2 M) : LedAt w a1 a2 A M :=
  ⟨h1, h2, (may_ranges hm).1, (may_ranges hm).2, by have := hm.la; omega, by have := hm.lm; omega⟩
end Go.Proofs.Ytgidkmipecfjhaa
namespace Go.Proofs.Ytgidkmipecfjhaa
open Go.RowKit
open Led (Acc Mk)
abbrev cashS : ByteArray := ⟨#[99, 97, 115, 104]⟩
abbrev keyS : ByteArray := ⟨#[107]⟩
theorem pos_one (s : ByteArray) : Led.pos [s] s = 0 := by unfold Led.pos; simp [Led.lt_irrefl]
def A1 : List Acc := [⟨cashS, 10, 0, 0, 0, 0, 0⟩]
def A2 : List Acc := [⟨cashS, 6, 0, 4, 0, 0, 0⟩]
def M1 : List Mk := [⟨keyS, 1, cashS, 4, 1⟩]
def M2 : List Mk := [⟨keyS, 1, cashS, 4, 2⟩]
theorem awk_open : openE [] [] cashS 10 = 0 := by decide +kernel
theorem awk_openA : openA [] cashS 10 = A1 := rfl
theorem atA1 : atA A1 cashS = ⟨cashS, 10, 0, 0, 0, 0, 0⟩ := by
  unfold atA; rw [show Led.nm A1 = [cashS] from rfl, pos_one]; rfl
theorem atA2 : atA A2 cashS = ⟨cashS, 6, 0, 4, 0, 0, 0⟩ := by
  unfold atA; rw [show Led.nm A2 = [cashS] from rfl, pos_one]; rfl
theorem atM1 : atM M1 keyS = ⟨keyS, 1, cashS, 4, 1⟩ := by
  unfold atM; rw [show Led.ky M1 = [keyS] from rfl, pos_one]; rfl
theorem awk_do : doE A1 [] keyS 1 cashS 4 = 0 := by
  have h1 : (Led.mayB A1 [] && Led.keyB keyS) = true := by decide +kernel
  have h2 : Act.actB 1 cashS 4 = true := by decide +kernel
  have h3 : Led.hasB (Led.ky []) keyS = false := rfl
  have h4 : Led.hasB (Led.nm A1) cashS = true := by decide +kernel
  unfold doE begE
  rw [if_pos h1, if_pos h2, h3, if_neg (by decide), if_pos h4, if_neg (by decide), atA1]
  decide +kernel
theorem awk_doA : doA A1 [] keyS 1 cashS 4 = A2 := by
  unfold doA
  rw [if_neg (show ¬ Led.hasB (Led.ky []) keyS = true by decide), atA1, show Led.nm A1 = [cashS] from rfl, pos_one]
  rfl
theorem awk_doM : doM [] keyS 1 cashS 4 = M1 := by
  unfold doM
  rw [if_neg (show ¬ Led.hasB (Led.ky []) keyS = true by decide)]
  rfl
theorem awk_may2 : Led.May A2 M1 := by have := do_may awk_do; rw [awk_doA, awk_doM] at this; exact this
theorem awk_again : doE A2 M1 keyS 1 cashS 4 = 0 ∧ doA A2 M1 keyS 1 cashS 4 = A2 ∧ doM M1 keyS 1 cashS 4 = M1 := by
  have := do_again awk_do; rw [awk_doA, awk_doM] at this; exact this
theorem awk_five : doE A2 M1 keyS 1 cashS 5 = 72 := by
  have h1 : (Led.mayB A2 M1 && Led.keyB keyS) = true := by rw [(Led.may_iff _ _).2 awk_may2]; decide +kernel
  have h2 : Act.actB 1 cashS 5 = true := by decide +kernel
  have h3 : Led.hasB (Led.ky M1) keyS = true := by decide +kernel
  unfold doE
  rw [if_pos h1, if_pos h2, if_pos h3, atM1, if_neg (by decide +kernel)]
theorem awk_end : endE Act.chUn 2 A2 M1 keyS = 0 := by
  have h1 : (Led.mayB A2 M1 && Led.keyB keyS) = true := by rw [(Led.may_iff _ _).2 awk_may2]; decide +kernel
  have h3 : Led.hasB (Led.ky M1) keyS = true := by decide +kernel
  unfold endE
  rw [if_pos h1, if_pos h3, atM1, if_neg (by decide), if_pos rfl, atA2]
  decide +kernel
theorem awk_endA : endA Act.chUn 2 A2 M1 keyS = A1 := by
  unfold endA
  rw [atM1, if_neg (by decide), atA2, show Led.nm A2 = [cashS] from rfl, pos_one]
  rfl
theorem awk_endM : endM 2 M1 keyS = M2 := by
  unfold endM
  rw [atM1, if_neg (by decide), show Led.ky M1 = [keyS] from rfl, pos_one]
  rfl
theorem awk_may3 : Led.May A1 M2 := by have := end_may (Or.inl ⟨rfl, rfl⟩) awk_end; rw [awk_endA, awk_endM] at this; exact this
theorem awk_find : findE A2 M1 cashS = ⟨cashS, 6, 0, 4, 0, 0, 0⟩ ∧ findB A2 M1 cashS = true := by
  have h4 : Led.hasB (Led.nm A2) cashS = true := by decide +kernel
  unfold findE findB
  rw [(Led.may_iff _ _).2 awk_may2, h4, if_pos rfl, if_pos rfl, show Led.nm A2 = [cashS] from rfl, pos_one]
  exact ⟨rfl, rfl⟩
theorem awk_state : stateE A1 M2 keyS = 2 := by
  have h4 : Led.hasB (Led.ky M2) keyS = true := by decide +kernel
  unfold stateE
  rw [(Led.may_iff _ _).2 awk_may3, h4, if_pos rfl, if_pos rfl, show Led.ky M2 = [keyS] from rfl, pos_one]
  rfl
theorem awk_none : mayL [accZ] [] = 2 := by decide +kernel
theorem awkOpen (w : World) : Calls Try.prog 18 #[.agg #[.slice none 0 0, .slice none 0 0], .string ⟨#[99, 97, 115, 104]⟩, .int .i64 10] w fun e w' => ∃ a1 c1 a2 c2, e = .returned (.tuple #[.agg #[.slice a1 1 c1, .slice a2 0 c2], .int .i64 0]) ∧ LedAt w' a1 a2 A1 [] ∧ Gr w w' :=
  (open_yes [] [] cashS 10 none 0 none 0 w ⟨RowAt.nil, RowAt.nil, by simp, by simp, by simp, by simp⟩ (by decide) awk_open).mono (by
    rintro e w2 ⟨v1, v2, rfl, o1, o2, g2⟩
    rw [awk_openA] at o1
    have o1 : w2.ownsRow w.heap.size _ 7 v1 A1.length (A1.flatMap accC) := o1
    obtain ⟨a1, c1, rfl, _, _, q1, _, _⟩ := own_row o1
    obtain ⟨a2, c2, rfl, _, _, q2, _, _⟩ := own_row o2
    exact ⟨a1, c1, a2, c2, rfl, led_of (by have := open_may awk_open; rw [awk_openA] at this; exact this) q1 q2, g2⟩)
theorem awkDo (a1 : Option Addr) (c1 : Nat) (a2 : Option Addr) (c2 : Nat) (w : World) (h : LedAt w a1 a2 A1 []) : Calls Try.prog 20 #[.agg #[.slice a1 1 c1, .slice a2 0 c2], .string ⟨#[107]⟩, .agg #[.int .i64 1, .string ⟨#[99, 97, 115, 104]⟩, .int .i64 4]] w fun e w' => ∃ a1 c1 a2 c2, e = .returned (.tuple #[.agg #[.slice a1 1 c1, .slice a2 1 c2], .int .i64 0]) ∧ LedAt w' a1 a2 A2 M1 ∧ (∀ a, a1 = some a → w.heap.size ≤ a.block) ∧ (∀ a, a2 = some a → w.heap.size ≤ a.block) ∧ Gr w w' :=
  (do_yes A1 [] keyS 1 4 cashS a1 c1 a2 c2 w h (by decide) (by decide) awk_do).mono (by
    rintro e w2 ⟨v1, v2, rfl, o1, o2, g2⟩
    rw [awk_doA] at o1
    rw [awk_doM] at o2
    obtain ⟨a1, c1, rfl, _, _, q1, n1, _⟩ := own_row o1
    obtain ⟨a2, c2, rfl, _, _, q2, n2, _⟩ := own_row o2
    exact ⟨a1, c1, a2, c2, rfl, led_of awk_may2 q1 q2, n1, n2, g2⟩)
theorem awkDo2 (a1 : Option Addr) (c1 : Nat) (a2 : Option Addr) (c2 : Nat) (w : World) (h : LedAt w a1 a2 A2 M1) : Calls Try.prog 20 #[.agg #[.slice a1 1 c1, .slice a2 1 c2], .string ⟨#[107]⟩, .agg #[.int .i64 1, .string ⟨#[99, 97, 115, 104]⟩, .int .i64 4]] w fun e w' => ∃ a1 c1 a2 c2, e = .returned (.tuple #[.agg #[.slice a1 1 c1, .slice a2 1 c2], .int .i64 0]) ∧ LedAt w' a1 a2 A2 M1 ∧ (∀ a, a1 = some a → w.heap.size ≤ a.block) ∧ (∀ a, a2 = some a → w.heap.size ≤ a.block) ∧ Gr w w' :=
  (do_yes A2 M1 keyS 1 4 cashS a1 c1 a2 c2 w h (by decide) (by decide) awk_again.1).mono (by
    rintro e w2 ⟨v1, v2, rfl, o1, o2, g2⟩
    rw [awk_again.2.1] at o1
    rw [awk_again.2.2] at o2
    obtain ⟨a1, c1, rfl, _, _, q1, n1, _⟩ := own_row o1
    obtain ⟨a2, c2, rfl, _, _, q2, n2, _⟩ := own_row o2
    exact ⟨a1, c1, a2, c2, rfl, led_of awk_may2 q1 q2, n1, n2, g2⟩)
theorem awkDo3 (a1 : Option Addr) (c1 : Nat) (a2 : Option Addr) (c2 : Nat) (w : World) (h : LedAt w a1 a2 A2 M1) : Calls Try.prog 20 #[.agg #[.slice a1 1 c1, .slice a2 1 c2], .string ⟨#[107]⟩, .agg #[.int .i64 1, .string ⟨#[99, 97, 115, 104]⟩, .int .i64 5]] w fun e w' => e = .returned (.tuple #[.agg #[.slice none 0 0, .slice none 0 0], .int .i64 72]) ∧ Gr w w' := by
  have := do_no A2 M1 keyS 1 5 cashS a1 c1 a2 c2 w h (by decide) (by decide) (by rw [awk_five]; decide)
  rw [awk_five] at this
  exact this
theorem awkUndo (a1 : Option Addr) (c1 : Nat) (a2 : Option Addr) (c2 : Nat) (w : World) (h : LedAt w a1 a2 A2 M1) : Calls Try.prog 22 #[.agg #[.slice a1 1 c1, .slice a2 1 c2], .string ⟨#[107]⟩] w fun e w' => ∃ a1 c1 a2 c2, e = .returned (.tuple #[.agg #[.slice a1 1 c1, .slice a2 1 c2], .int .i64 0]) ∧ LedAt w' a1 a2 A1 M2 ∧ Gr w w' :=
  (ownU_yes A2 M1 keyS a1 c1 a2 c2 w h (by decide) awk_end).mono (by
    rintro e w2 ⟨v1, v2, rfl, o1, o2, g2⟩
    rw [awk_endA] at o1
    rw [awk_endM] at o2
    obtain ⟨a1, c1, rfl, _, _, q1, _, _⟩ := own_row o1
    obtain ⟨a2, c2, rfl, _, _, q2, _, _⟩ := own_row o2
    exact ⟨a1, c1, a2, c2, rfl, led_of awk_may3 q1 q2, g2⟩)
theorem awkFind (a1 : Option Addr) (c1 : Nat) (a2 : Option Addr) (c2 : Nat) (w : World) (h : LedAt w a1 a2 A2 M1) : Calls Try.prog 10 #[.agg #[.slice a1 1 c1, .slice a2 1 c2], .string ⟨#[99, 97, 115, 104]⟩] w fun e w' => e = .returned (.tuple #[.agg #[.string ⟨#[99, 97, 115, 104]⟩, .int .i64 6, .int .i64 0, .int .i64 4, .int .i64 0, .int .i64 0, .int .i64 0], .bool true]) ∧ Gr w w' := by
  have := find7_any A2 M1 cashS a1 c1 a2 c2 w h
  rw [awk_find.1, awk_find.2] at this
  exact this
theorem awkState (a1 : Option Addr) (c1 : Nat) (a2 : Option Addr) (c2 : Nat) (w : World) (h : LedAt w a1 a2 A1 M2) : Calls Try.prog 16 #[.agg #[.slice a1 1 c1, .slice a2 1 c2], .string ⟨#[107]⟩] w fun e w' => e = .returned (.int .i64 2) ∧ Gr w w' := by
  have := state7_any A1 M2 keyS a1 c1 a2 c2 w h
  rw [awk_state] at this
  exact this
theorem awkMay (a1 : Option Addr) (c1 : Nat) (a2 : Option Addr) (c2 : Nat) (w : World) (h : AccsAt w a1 [accZ]) : Calls Try.prog 14 #[.agg #[.slice a1 1 c1, .slice a2 0 c2]] w fun e w' => e = .returned (.int .i64 2) ∧ Gr w w' := by
  have := may7_any [accZ] [] a1 c1 a2 c2 w h RowAt.nil (by intro x hx; simp at hx; subst hx; unfold inA inI accZ; decide +kernel) (by simp) (by simp) (by simp)
  rw [awk_none] at this
  exact this
end Go.Proofs.Ytgidkmipecfjhaa
namespace Go.Proofs.Ytgidkmipecfjhaa
open Go.RowKit
open Led (Acc Mk)
set_option maxHeartbeats 4000000 in
set_option maxRecDepth 100000 in
theorem same7_eq (A : List Acc) (M : List Mk) (a1 a2 b1 b2 : Option Addr) (c1 c2 c3 c4 : Nat) (w : World) (hA : AccsAt w a1 A) (hM : MksAt w a2 M) (hA' : AccsAt w b1 A) (hM' : MksAt w b2 M) (hnA : A.length ≤ 9223372036854775807) (hnM : M.length ≤ 9223372036854775807) :
    Calls Try.prog 25 #[.agg #[.slice a1 A.length c1, .slice a2 M.length c2], .agg #[.slice b1 A.length c3, .slice b2 M.length c4]] w fun e w' => e = .returned (.bool true) ∧ Gr w w' := by
  have H1 : Hid (AccsAt w a1 A) := hA
  have H2 : Hid (MksAt w a2 M) := hM
  have H3 : Hid (AccsAt w b1 A) := hA'
  have H4 : Hid (MksAt w b2 M) := hM'
  clear hA hM hA' hM'
  go_enter Try.func25, Try.ntmps25
  go_wp2
  have HBX : Hid (TwoAt ((w.alloc (.cells #[.slice a1 A.length c1, .slice a2 M.length c2] 25)).alloc (.cells #[.slice b1 A.length c3, .slice b2 M.length c4] 25)) w.heap.size (.slice a1 A.length c1) (.slice a2 M.length c2)) := (TwoAt.new w _ _ _ _ rfl).gr (Gr.refl _).alloc
  have HBY : Hid (TwoAt ((w.alloc (.cells #[.slice a1 A.length c1, .slice a2 M.length c2] 25)).alloc (.cells #[.slice b1 A.length c3, .slice b2 M.length c4] 25)) (w.heap.size + 1) (.slice b1 A.length c3) (.slice b2 M.length c4)) := TwoAt.new _ _ _ _ (w.heap.size + 1) (by simp)
  go_loopw [5] (fun s5 wr => ∃ k : Nat, s5 = .int .i64 k ∧ k ≤ A.length ∧ TwoAt wr w.heap.size (.slice a1 A.length c1) (.slice a2 M.length c2) ∧ TwoAt wr (w.heap.size + 1) (.slice b1 A.length c3) (.slice b2 M.length c4) ∧ Gr w wr) (fun s5 _ => A.length - (intOf s5).toNat)
  case atStart => exact ⟨0, rfl, Nat.zero_le _, HBX.out, HBY.out, (Gr.refl _).alloc.alloc⟩
  case round =>
    clear HBX HBY
    obtain ⟨k, rfl, hk, hX, hY, hg⟩ := hrel
    have HX : Hid (TwoAt wr w.heap.size (.slice a1 A.length c1) (.slice a2 M.length c2)) := hX
    have HY : Hid (TwoAt wr (w.heap.size + 1) (.slice b1 A.length c3) (.slice b2 M.length c4)) := hY
    have HG : Hid (Gr w wr) := hg
    obtain ⟨x0, x1, _, _, xl⟩ := hX
    obtain ⟨y0, y1, _, _, yl⟩ := hY
    clear hg
    by_cases hlt : k < A.length
    · obtain ⟨b, off, rfl, hb, d0, d1, d2, d3, d4, d5, d6⟩ := (AccsAt.at H1.out k hlt)
      obtain ⟨b', off', rfl, hb', e0, e1, e2, e3, e4, e5, e6⟩ := (AccsAt.at H3.out k hlt)
      have d0 := HG.out.keep d0
      have d1 := HG.out.keep d1
      have d2 := HG.out.keep d2
      have d3 := HG.out.keep d3
      have d4 := HG.out.keep d4
      have d5 := HG.out.keep d5
      have d6 := HG.out.keep d6
      have e0 := HG.out.keep e0
      have e1 := HG.out.keep e1
      have e2 := HG.out.keep e2
      have e3 := HG.out.keep e3
      have e4 := HG.out.keep e4
      have e5 := HG.out.keep e5
      have e6 := HG.out.keep e6
      have hbw : b < wr.heap.size := Nat.lt_of_lt_of_le hb HG.out.size
      have hbw' : b' < wr.heap.size := Nat.lt_of_lt_of_le hb' HG.out.size
      have hki : (k : Int) < (A.length : Int) := by omega
      generalize A[k] = x at *
      go_wp2_with fail
      go_quiet (fail)
      go_wp2
      go_roundw
      case rel => exact ⟨k + 1, by go_num, by omega, HX.out.gr ((Gr.refl _).drewN _), HY.out.gr ((Gr.refl _).drewN _), HG.out.drewN _⟩
      case measure => simp [intOf]; omega
    · have hge : ¬ ((k : Int) < (A.length : Int)) := by omega
      go_wp2
      go_loopw [6] (fun s6 wr => ∃ k : Nat, s6 = .int .i64 k ∧ k ≤ M.length ∧ TwoAt wr w.heap.size (.slice a1 A.length c1) (.slice a2 M.length c2) ∧ TwoAt wr (w.heap.size + 1) (.slice b1 A.length c3) (.slice b2 M.length c4) ∧ Gr w wr) (fun s6 _ => M.length - (intOf s6).toNat)
      case atStart => exact ⟨0, rfl, Nat.zero_le _, HX.out, HY.out, HG.out⟩
      case round =>
        clear HX HY HG x0 x1 xl y0 y1 yl
        obtain ⟨k, rfl, hk, hX, hY, hg⟩ := hrel
        have HX : Hid (TwoAt wr w.heap.size (.slice a1 A.length c1) (.slice a2 M.length c2)) := hX
        have HY : Hid (TwoAt wr (w.heap.size + 1) (.slice b1 A.length c3) (.slice b2 M.length c4)) := hY
        have HG : Hid (Gr w wr) := hg
        obtain ⟨x0, x1, _, _, xl⟩ := hX
        obtain ⟨y0, y1, _, _, yl⟩ := hY
        clear hg
        by_cases hlt : k < M.length
        · obtain ⟨b, off, rfl, hb, d0, d1, d2, d3, d4⟩ := (MksAt.at H2.out k hlt)
          obtain ⟨b', off', rfl, hb', e0, e1, e2, e3, e4⟩ := (MksAt.at H4.out k hlt)
          have d0 := HG.out.keep d0
          have d1 := HG.out.keep d1
          have d2 := HG.out.keep d2
          have d3 := HG.out.keep d3
          have d4 := HG.out.keep d4
          have e0 := HG.out.keep e0
          have e1 := HG.out.keep e1
          have e2 := HG.out.keep e2
          have e3 := HG.out.keep e3
          have e4 := HG.out.keep e4
          have hbw : b < wr.heap.size := Nat.lt_of_lt_of_le hb HG.out.size
          have hbw' : b' < wr.heap.size := Nat.lt_of_lt_of_le hb' HG.out.size
          have hki : (k : Int) < (M.length : Int) := by omega
          generalize M[k] = x at *
          go_wp2_with fail
          go_quiet (fail)
          go_wp2
          go_roundw
          case rel => exact ⟨k + 1, by go_num, by omega, HX.out.gr ((Gr.refl _).drewN _), HY.out.gr ((Gr.refl _).drewN _), HG.out.drewN _⟩
          case measure => simp [intOf]; omega
        · have hge : ¬ ((k : Int) < (M.length : Int)) := by omega
          go_wp2
          go_ret
          exact ⟨rfl, HG.out⟩
end Go.Proofs.Ytgidkmipecfjhaa
namespace Go.Proofs.Ytgidkmipecfjhaa
open Go.RowKit
open Led (Acc Mk)
theorem acc_alone {w : World} {g : Nat} {x : Acc} (h : AccAt w g (.string x.s) (.int .i64 x.a) (.int .i64 x.b) (.int .i64 x.c) (.int .i64 x.x) (.int .i64 x.y) (.int .i64 x.z)) : AccsAt w (some ⟨g, 0, none⟩) [x] := by
  have hb := h.lt
  obtain ⟨c0, c1, c2, c3, c4, c5, c6⟩ := h.cells
  intro j u hu
  rw [show [x].flatMap accC = accC x by simp] at hu
  unfold accC at hu
  match j, hu with
  | 0, hu => cases hu; exact ⟨g, 0, rfl, hb, c0⟩
  | 1, hu => cases hu; exact ⟨g, 0, rfl, hb, c1⟩
  | 2, hu => cases hu; exact ⟨g, 0, rfl, hb, c2⟩
  | 3, hu => cases hu; exact ⟨g, 0, rfl, hb, c3⟩
  | 4, hu => cases hu; exact ⟨g, 0, rfl, hb, c4⟩
  | 5, hu => cases hu; exact ⟨g, 0, rfl, hb, c5⟩
  | 6, hu => cases hu; exact ⟨g, 0, rfl, hb, c6⟩
  | j + 7, hu => simp at hu
theorem LedAt.setFar {w : World} {a1 a2 : Option Addr} {A : List Acc} {M : List Mk} (h : LedAt w a1 a2 A M) (p : Addr) (v : Value) (h1 : ∀ a, a1 = some a → p.block ≠ a.block) (h2 : ∀ a, a2 = some a → p.block ≠ a.block) : LedAt (w.setCell p v) a1 a2 A M :=
  ⟨h.a.setFar p v h1, h.m.setFar p v h2, h.ra, h.rm, h.la, h.lm⟩
set_option maxHeartbeats 4000000 in
set_option maxRecDepth 100000 in
theorem awake_any (w : World) : Calls Try.prog 9 #[] w fun e w' => e = .returned (.bool true) ∧ Gr w w' := by
  go_enter Try.func9, Try.ntmps9
  go_wp2_with fail
  refine (awkOpen _).mono ?_
  rintro e w1 ⟨x1, y1, x2, y2, rfl, hl1, hg1⟩
  have HL1 : Hid (LedAt w1 x1 x2 A1 []) := hl1
  have g1 : Gr w w1 := hg1
  clear hl1 hg1
  go_wp2_with fail
  refine (awkDo x1 y1 x2 y2 _ (HL1.out.gr (Gr.refl _).alloc.alloc)).mono ?_
  rintro e w2 ⟨p1, q1, p2, q2, rfl, hl2, hf1, hf2, hg2⟩
  have HL2 : Hid (LedAt w2 p1 p2 A2 M1) := hl2
  have HF1 : Hid (∀ a, p1 = some a → w1.heap.size + 1 ≠ a.block) := fun a e => by have := hf1 a e; simp at this; omega
  have HF2 : Hid (∀ a, p2 = some a → w1.heap.size + 1 ≠ a.block) := fun a e => by have := hf2 a e; simp at this; omega
  have HB2 : Hid (BoxAt w2 (w1.heap.size + 1) _ _ _) := (BoxAt.new (w1.alloc _) _ _ _ _ (w1.heap.size + 1) (by simp)).gr hg2
  have g2 : Gr w w2 := g1.alloc.alloc.trans hg2
  have z1 := g1.size
  have z2 := hg2.size
  simp at z2
  obtain ⟨a0, a1, a2, af0, af1, af2, al⟩ := HB2.out
  clear hl2 hg2 hf1 hf2 HL1 g1
  go_wp2_with fail
  refine (awkDo2 p1 q1 p2 q2 _ (HL2.out.gr (Gr.refl _).alloc)).mono ?_
  rintro e w3 ⟨s1, t1, s2, t2, rfl, hl3, hf1, hf2, hg3⟩
  have HL3 : Hid (LedAt w3 p1 p2 A2 M1) := (HL2.out.gr (Gr.refl _).alloc).gr hg3
  have HN3 : Hid (LedAt w3 s1 s2 A2 M1) := hl3
  have HE1 : Hid (∀ a, s1 = some a → w1.heap.size + 1 ≠ a.block) := fun a e => by have := hf1 a e; simp at this; omega
  have HE2 : Hid (∀ a, s2 = some a → w1.heap.size + 1 ≠ a.block) := fun a e => by have := hf2 a e; simp at this; omega
  have HB3 : Hid (BoxAt w3 (w1.heap.size + 1) _ _ _) := (HB2.out.gr (Gr.refl _).alloc).gr hg3
  have HM3 : Hid (TwoAt w3 w2.heap.size _ _) := (TwoAt.new w2 _ _ _ _ rfl).gr hg3
  have g3 : Gr w w3 := g2.alloc.trans hg3
  have z3 := hg3.size
  simp at z3
  clear a0 a1 a2 af0 af1 af2 al
  obtain ⟨a0, a1, a2, af0, af1, af2, al⟩ := HB3.out
  obtain ⟨m0, m1, _, _, ml⟩ := HM3.out
  clear hl3 hg3 hf1 hf2 g2 HL2
  go_wp2_with fail
  have gs : Gr w ((w3.setCell ⟨w1.heap.size + 1, 2, none⟩ (.int .i64 5)).alloc (.cells #[.slice s1 1 t1, .slice s2 1 t2] 25)) := (g3.set _ (by simp; omega) _).alloc
  have HLs : Hid (LedAt ((w3.setCell ⟨w1.heap.size + 1, 2, none⟩ (.int .i64 5)).alloc (.cells #[.slice s1 1 t1, .slice s2 1 t2] 25)) p1 p2 A2 M1) := (HL3.out.setFar _ _ HF1.out HF2.out).gr (Gr.refl _).alloc
  have HNs : Hid (LedAt ((w3.setCell ⟨w1.heap.size + 1, 2, none⟩ (.int .i64 5)).alloc (.cells #[.slice s1 1 t1, .slice s2 1 t2] 25)) s1 s2 A2 M1) := (HN3.out.setFar _ _ HE1.out HE2.out).gr (Gr.refl _).alloc
  have HMs : Hid (TwoAt ((w3.setCell ⟨w1.heap.size + 1, 2, none⟩ (.int .i64 5)).alloc (.cells #[.slice s1 1 t1, .slice s2 1 t2] 25)) w2.heap.size _ _) := (HM3.out.far _ _ (by simp; omega)).gr (Gr.refl _).alloc
  have HQs : Hid (TwoAt ((w3.setCell ⟨w1.heap.size + 1, 2, none⟩ (.int .i64 5)).alloc (.cells #[.slice s1 1 t1, .slice s2 1 t2] 25)) w3.heap.size _ _) := TwoAt.new _ _ _ _ w3.heap.size (by simp)
  clear HL3 HN3 HM3 HB3 HB2 HF1 HF2 HE1 HE2 g3
  refine (awkDo3 p1 q1 p2 q2 _ HLs.out).mono ?_
  rintro e w4 ⟨rfl, hg4⟩
  have HL4 : Hid (LedAt w4 p1 p2 A2 M1) := HLs.out.gr hg4
  have HN4 : Hid (LedAt w4 s1 s2 A2 M1) := HNs.out.gr hg4
  have HM4 : Hid (TwoAt w4 w2.heap.size _ _) := HMs.out.gr hg4
  have HQ4 : Hid (TwoAt w4 w3.heap.size _ _) := HQs.out.gr hg4
  have g4 : Gr w w4 := gs.trans hg4
  have z4 := hg4.size
  simp at z4
  clear a0 a1 a2 af0 af1 af2 al m0 m1 ml
  obtain ⟨m0, m1, _, _, ml⟩ := HM4.out
  clear hg4 HLs HNs HMs HQs gs
  go_wp2_with fail
  refine (awkUndo p1 q1 p2 q2 _ (HL4.out.gr (Gr.refl _).alloc)).mono ?_
  rintro e w5 ⟨u1, v1, u2, v2, rfl, hl5, hg5⟩
  have HU5 : Hid (LedAt w5 u1 u2 A1 M2) := hl5
  have HL5 : Hid (LedAt w5 p1 p2 A2 M1) := (HL4.out.gr (Gr.refl _).alloc).gr hg5
  have HN5 : Hid (LedAt w5 s1 s2 A2 M1) := (HN4.out.gr (Gr.refl _).alloc).gr hg5
  have HM5 : Hid (TwoAt w5 w2.heap.size _ _) := (HM4.out.gr (Gr.refl _).alloc).gr hg5
  have HQ5 : Hid (TwoAt w5 w3.heap.size _ _) := (HQ4.out.gr (Gr.refl _).alloc).gr hg5
  have g5 : Gr w w5 := g4.alloc.trans hg5
  clear m0 m1 ml
  obtain ⟨m0, m1, _, _, ml⟩ := HM5.out
  clear hg5 hl5 HL4 HN4 HM4 HQ4 g4
  go_wp2_with fail
  refine (awkFind p1 q1 p2 q2 _ (HL5.out.gr (Gr.refl _).alloc)).mono ?_
  rintro e w6 ⟨rfl, hg6⟩
  have HU6 : Hid (LedAt w6 u1 u2 A1 M2) := (HU5.out.gr (Gr.refl _).alloc).gr hg6
  have HL6 : Hid (LedAt w6 p1 p2 A2 M1) := (HL5.out.gr (Gr.refl _).alloc).gr hg6
  have HN6 : Hid (LedAt w6 s1 s2 A2 M1) := (HN5.out.gr (Gr.refl _).alloc).gr hg6
  have HM6 : Hid (TwoAt w6 w2.heap.size _ _) := (HM5.out.gr (Gr.refl _).alloc).gr hg6
  have HQ6 : Hid (TwoAt w6 w3.heap.size _ _) := (HQ5.out.gr (Gr.refl _).alloc).gr hg6
  have HV6 : Hid (TwoAt w6 w5.heap.size _ _) := (TwoAt.new w5 _ _ _ _ rfl).gr hg6
  have g6 : Gr w w6 := g5.alloc.trans hg6
  clear m0 m1 ml
  obtain ⟨m0, m1, _, _, ml⟩ := HM6.out
  obtain ⟨n0, n1, _, _, nl⟩ := HQ6.out
  clear hg6 HL5 HN5 HM5 HQ5 HU5 g5
  go_wp2_with fail
  refine (same7_eq A2 M1 p1 p2 s1 s2 q1 q2 t1 t2 _ (HL6.out.gr (Gr.refl _).alloc).a (HL6.out.gr (Gr.refl _).alloc).m (HN6.out.gr (Gr.refl _).alloc).a (HN6.out.gr (Gr.refl _).alloc).m (by decide) (by decide)).mono ?_
  rintro e w7 ⟨rfl, hg7⟩
  have HU7 : Hid (LedAt w7 u1 u2 A1 M2) := (HU6.out.gr (Gr.refl _).alloc).gr hg7
  have HV7 : Hid (TwoAt w7 w5.heap.size _ _) := (HV6.out.gr (Gr.refl _).alloc).gr hg7
  have HX7 : Hid (AccAt w7 w6.heap.size _ _ _ _ _ _ _) := (AccAt.new w6 _ _ _ _ _ _ _ _ _ rfl).gr hg7
  have g7 : Gr w w7 := g6.alloc.trans hg7
  clear m0 m1 ml n0 n1 nl
  obtain ⟨v0, v3, _, _, vl⟩ := HV7.out
  clear hg7 HL6 HN6 HM6 HQ6 HV6 HU6 g6
  go_wp2_with fail
  refine (awkState u1 v1 u2 v2 _ HU7.out).mono ?_
  rintro e w8 ⟨rfl, hg8⟩
  have HX8 : Hid (AccAt w8 w6.heap.size _ _ _ _ _ _ _) := HX7.out.gr hg8
  have g8 : Gr w w8 := g7.trans hg8
  obtain ⟨c0, c1, c2, c3, c4, c5, c6⟩ := HX8.out.cells
  have cl := HX8.out.lt
  clear v0 v3 vl hg8 HU7 HV7 HX7 g7
  go_wp2_with fail
  refine (awkMay _ 1 none 0 _ (acc_alone (x := accZ) (AccAt.new w8 _ _ _ _ _ _ _ _ _ rfl))).mono ?_
  rintro e w9 ⟨rfl, hg9⟩
  have g9 : Gr w w9 := g8.alloc.trans hg9
  clear hg9 g8 HX8
  go_wp2
  go_ret
  exact ⟨rfl, g9⟩
end Go.Proofs.Ytgidkmipecfjhaa
namespace Go.Proofs.Ytgidkmipecfjhaa
open Go.ChangeShapes Go.WideShapes Go.ChangeAt Go.RowKit
open Led (Acc Mk)
theorem own2 : ownKnob Try.prog.godebug = none := by kernel_rfl
theorem laidOut2 : laidOutB Try.prog = true := by kernel_rfl
theorem rng_i64 {n : Int} (h : (Lit.int .i64 n).wf = true) : -9223372036854775808 ≤ n ∧ n ≤ 9223372036854775807 := by
  simp only [Lit.wf, Bool.and_eq_true, decide_eq_true_eq] at h
  exact h
def CalsAt (w : World) (ad : Option Addr) (T : List Cal) : Prop :=
  ∀ j (h : j < T.length), ∃ b off, ad = some ⟨b, off, none⟩ ∧ b < w.heap.size ∧ w.cell? ⟨b, off + j * 5, none⟩ = some (.int .i64 T[j].kd) ∧ w.cell? ⟨b, off + j * 5 + 1, none⟩ = some (.string T[j].key) ∧ w.cell? ⟨b, off + j * 5 + 2, none⟩ = some (.int .i64 T[j].k) ∧ w.cell? ⟨b, off + j * 5 + 3, none⟩ = some (.string T[j].t) ∧ w.cell? ⟨b, off + j * 5 + 4, none⟩ = some (.int .i64 T[j].n)
theorem CalsAt.gr {w w' : World} {ad : Option Addr} {T : List Cal} (h : CalsAt w ad T) (g : Gr w w') : CalsAt w' ad T := by
  intro j hj
  obtain ⟨b, off, e, hb, h1, h2, h3, h4, h5⟩ := h j hj
  exact ⟨b, off, e, Nat.lt_of_lt_of_le hb g.size, g.keep h1, g.keep h2, g.keep h3, g.keep h4, g.keep h5⟩
set_option maxRecDepth 100000 in
theorem trod_act {H : Type} {enc : TypeId × Value → H} {W : World} {base : Nat} {sp : Nat → Bool} {held : Bool} {fuel : Nat} {u v q : Value} {x : DataW H × List MemPlace}
    (h : DataW.trod enc Try.prog W base sp held fuel 44 [u, v, q] = some x) : ∃ k s n, u = .int .i64 k ∧ v = .string s ∧ q = .int .i64 n ∧ inI k ∧ s.size ≤ 9223372036854775807 ∧ inI n := by
  obtain ⟨y0, y1, y2, n, _, _, t0, t1, t2⟩ := Deep.trod_struct3 Try.underlying44 h
  have k0 : Try.prog.cellsOf 3 = 1 := by kernel_rfl
  have k1 : Try.prog.cellsOf 9 = 1 := by kernel_rfl
  have k2 : Try.prog.cellsOf 2 = 1 := by kernel_rfl
  simp [k0, k1, k2] at t0 t1 t2
  obtain ⟨z0, e0, _, r0⟩ := DataW.trod_int Try.underlying3 t0
  obtain ⟨z1, e1, _, r1⟩ := DataW.trod_string Try.underlying9 t1
  obtain ⟨z2, e2, _, r2⟩ := DataW.trod_int Try.underlying2 t2
  simp at e0 e1 e2
  subst e0 e1 e2
  unfold maxLen at r1
  exact ⟨z0, z1, z2, rfl, rfl, rfl, rng_i64 r0, by omega, rng_i64 r2⟩
end Go.Proofs.Ytgidkmipecfjhaa
