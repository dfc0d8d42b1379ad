/- What the proof is made of, part 15. -/
import Derived.Test.YtgidkmipecfjhaaTLLDoes14
namespace Go.Proofs.Ytgidkmipecfjhaa
open Go.RowKit
open Led (Acc Mk)
theorem BoxAt.mid {w : World} {g : Nat} {a b c : Value} (h : BoxAt w g a b c) (y : Value) : BoxAt (w.setCell ⟨g, 1, none⟩ y) g a y c := by
  obtain ⟨h0, h1, h2, f0, f1, f2, hl⟩ := h
  exact ⟨by simp [go_sem, *], by simp [go_sem, *], by simp [go_sem, *], by simp [go_sem, *], by simp [go_sem, *], by simp [go_sem, *], by simpa using hl⟩
theorem hk5 {w a b : World} {q0 q1 q2 q3 : Addr} {v0 v1 v2 v3 : Value} (h : Gr w a ∧ a.cell? q0 = some v0 ∧ a.cell? q1 = some v1 ∧ a.cell? q2 = some v2 ∧ a.cell? q3 = some v3) (g : Gr a b) :
    Gr w b ∧ b.cell? q0 = some v0 ∧ b.cell? q1 = some v1 ∧ b.cell? q2 = some v2 ∧ b.cell? q3 = some v3 := ⟨h.1.trans g, g.keep h.2.1, g.keep h.2.2.1, g.keep h.2.2.2.1, g.keep h.2.2.2.2⟩
def mvX (C : Act.Ch) (x : Acc) (k : Int) (t : ByteArray) (n : Int) : Int := Act.mvE C x.s x.a x.b x.c x.x x.y x.z k t n
def mvA (C : Act.Ch) (x : Acc) (k n : Int) : Acc := ⟨x.s, C.h (Act.oF k) x.a x.b x.c n, C.i (Act.oF k) x.a x.b x.c n, C.o (Act.oF k) x.a x.b x.c n, Act.hK C k x.x x.y x.z n, Act.iK C k x.x x.y x.z n, Act.uK C k x.x x.y x.z n⟩
def mvY (C : Act.Ch) (x : Acc) (k : Int) (t : ByteArray) (n : Int) : Acc := ⟨Act.pickS (mvX C x k t n) x.s, Pot.pick (mvX C x k t n) (mvA C x k n).a, Pot.pick (mvX C x k t n) (mvA C x k n).b, Pot.pick (mvX C x k t n) (mvA C x k n).c, Pot.pick (mvX C x k t n) (mvA C x k n).x, Pot.pick (mvX C x k t n) (mvA C x k n).y, Pot.pick (mvX C x k t n) (mvA C x k n).z⟩
theorem mvY_ok {C : Act.Ch} {x : Acc} {k : Int} {t : ByteArray} {n : Int} (h : mvX C x k t n = 0) : mvY C x k t n = mvA C x k n := by
  unfold mvY; rw [h]; rfl
theorem doX_any (x : Acc) (k n : Int) (t : ByteArray) (w : World) (hx : inA x) (ht : t.size ≤ 9223372036854775807) :
    Calls Try.prog 83 #[.agg #[.string x.s, .int .i64 x.a, .int .i64 x.b, .int .i64 x.c, .int .i64 x.x, .int .i64 x.y, .int .i64 x.z], .agg #[.int .i64 k, .string t, .int .i64 n]] w fun e w' =>
      e = .returned (.tuple #[.agg #[.string (mvY Act.chDo x k t n).s, .int .i64 (mvY Act.chDo x k t n).a, .int .i64 (mvY Act.chDo x k t n).b, .int .i64 (mvY Act.chDo x k t n).c, .int .i64 (mvY Act.chDo x k t n).x, .int .i64 (mvY Act.chDo x k t n).y, .int .i64 (mvY Act.chDo x k t n).z], .int .i64 (mvX Act.chDo x k t n)]) ∧ Gr w w' :=
  actD_any x.s x.a x.b x.c x.x x.y x.z k n t w hx.1 ht hx.2.1.1.2 hx.2.1.2.2.2 hx.2.2.1.2 hx.2.2.2.2.2
def atA (A : List Acc) (t : ByteArray) : Acc := A.getD (Led.pos (Led.nm A) t) accZ
def begE (A : List Acc) (M : List Mk) (k : Int) (t : ByteArray) (n : Int) : Int := if Led.hasB (Led.nm A) t = true then (if 500 ≤ M.length then 3 else mvX Act.chDo (atA A t) k t n) else 70
def insK (M : List Mk) (m : Mk) : List Mk := M.take (Led.pos (Led.ky M) m.key) ++ m :: M.drop (Led.pos (Led.ky M) m.key)
theorem insK_len (M : List Mk) (m : Mk) : (insK M m).length = M.length + 1 := by
  unfold insK
  have := Led.pos_le (Led.ky M) m.key
  rw [Led.ky_len] at this
  rw [List.length_append, List.length_cons, List.length_take, List.length_drop]; omega
set_option maxHeartbeats 2000000 in
set_option maxRecDepth 100000 in
theorem begin_no (A : List Acc) (M : List Mk) (k n : Int) (t key : ByteArray) (adA : Option Addr) (capA : Nat) (adM : Option Addr) (capM : Nat) (q : Nat) (w : World) (h : LedAt w adA adM A M) (hm : Led.mayB A M = true) (ht : t.size ≤ 9223372036854775807) (he : begE A M k t n ≠ 0) :
    Calls Try.prog 57 #[.agg #[.slice adA A.length capA, .slice adM M.length capM], .int .i64 (q : Nat), .string key, .agg #[.int .i64 k, .string t, .int .i64 n]] w fun e w' => e = .returned (.tuple #[.agg #[.slice none 0 0, .slice none 0 0], .int .i64 (begE A M k t n)]) ∧ Gr w w' := by
  have hM := (Led.may_iff A M).1 hm
  have HF : Hid (∀ w', Gr w w' → Calls Try.prog 30 #[.slice adA A.length capA, .string t] w' fun e w2 => e = .returned (.tuple #[.int .i64 (Led.pos (Led.nm A) t : Nat), .bool (Led.hasB (Led.nm A) t)]) ∧ Gr w' w2) := fun w' g => findA_any A t adA capA w' (h.a.gr g) hM.ua (by have := hM.la; omega)
  have hmf : ∀ (fn : Fn) (first cap : Array Value) (w : World), (Instr.makeFunc fn first cap).run Try.prog w = .ok (.func fn first cap) w := fun _ _ _ _ => rfl
  have HB : Hid (∀ w1, Gr (((w.alloc (.cells #[.slice adA A.length capA, .slice adM M.length capM] 25)).alloc (.cells #[.int .i64 k, .string t, .int .i64 n] 44)).alloc (.cells #[.slice none 0 0, .slice none 0 0] 25)) w1 → TwoAt w1 w.heap.size (.slice adA A.length capA) (.slice adM M.length capM) ∧ BoxAt w1 (w.heap.size + 1) (.int .i64 k) (.string t) (.int .i64 n) ∧ TwoAt w1 (w.heap.size + 1 + 1) (.slice none 0 0) (.slice none 0 0) ∧ Gr w w1) := by
    intro w1 g
    exact ⟨(((TwoAt.new w _ _ _ _ rfl).gr (Gr.refl _).alloc).gr (Gr.refl _).alloc).gr g, ((BoxAt.new _ _ _ _ _ (w.heap.size + 1) (by simp)).gr (Gr.refl _).alloc).gr g, (TwoAt.new _ _ _ _ (w.heap.size + 1 + 1) (by simp)).gr g, (Gr.refl w).alloc.alloc.alloc.trans g⟩
  cases hh : Led.hasB (Led.nm A) t with
  | false =>
    rw [hh] at HF
    have HE : Hid (begE A M k t n = 70) := by show _ = _; unfold begE; rw [hh]; rfl
    clear h hm he hM hh
    generalize Led.pos (Led.nm A) t = p at *
    go_enter Try.func57, Try.ntmps57
    go_wp2_with fail
    refine (HF.out _ ((Gr.refl _).alloc.alloc.alloc)).mono ?_
    rintro e w1 ⟨rfl, hg1⟩
    obtain ⟨B, X, R, g1⟩ := HB.out w1 hg1
    obtain ⟨r0, r1, f0, f1, rl⟩ := R
    clear hg1 B X
    go_wp2
    exact bodyPost_ret (v := .tuple #[.agg #[.slice none 0 0, .slice none 0 0], .int .i64 70]) (by simp [results, Try.results57, go_sem, *]) rfl ⟨by rw [HE.out], (g1.set _ (by simp; omega) _).set _ (by simp; omega) _⟩
  | true =>
    rw [hh] at HF
    by_cases hl : 500 ≤ M.length
    · have hli : (500 : Int) ≤ (M.length : Int) := by omega
      have HE : Hid (begE A M k t n = 3) := by show _ = _; unfold begE; rw [hh, if_pos rfl, if_pos hl]
      clear h hm he hM hh
      generalize Led.pos (Led.nm A) t = p at *
      go_enter Try.func57, Try.ntmps57
      go_wp2_with fail
      refine (HF.out _ ((Gr.refl _).alloc.alloc.alloc)).mono ?_
      rintro e w1 ⟨rfl, hg1⟩
      obtain ⟨B, X, R, g1⟩ := HB.out w1 hg1
      obtain ⟨r0, r1, f0, f1, rl⟩ := R
      obtain ⟨b0, b1, _, _, bl⟩ := B
      clear hg1 X
      go_wp2
      exact bodyPost_ret (v := .tuple #[.agg #[.slice none 0 0, .slice none 0 0], .int .i64 3]) (by simp [results, Try.results57, go_sem, *]) rfl ⟨by rw [HE.out], (g1.set _ (by simp; omega) _).set _ (by simp; omega) _⟩
    · have hli : ¬ (500 : Int) ≤ (M.length : Int) := by omega
      have hE0 : begE A M k t n = mvX Act.chDo (atA A t) k t n := by unfold begE; rw [hh, if_pos rfl, if_neg hl]
      obtain ⟨hp, hpe⟩ := Led.pos_mem hM.ua ((Led.has_iff _ _).1 hh)
      rw [Led.nm_len] at hp
      obtain ⟨b, off, rfl⟩ : ∃ b off, adA = some ⟨b, off, none⟩ := by obtain ⟨b, off, e, _⟩ := AccsAt.at h.a (Led.pos (Led.nm A) t) hp; exact ⟨b, off, e⟩
      have hx : A[Led.pos (Led.nm A) t] = atA A t := by unfold atA; rw [List.getD_eq_getElem?_getD, List.getElem?_eq_getElem hp]; rfl
      have HC : Hid (∀ w', Gr w w' → Calls Try.prog 82 #[.agg #[.slice (some ⟨b, off, none⟩) A.length capA, .slice adM M.length capM], .func (.func 30) #[.slice (some ⟨b, off, none⟩) A.length capA] #[], .agg #[.int .i64 k, .string t, .int .i64 n], .func (.func 83) #[] #[]] w' fun e w2 => e = .returned (.tuple #[.agg #[.slice none 0 0, .slice none 0 0], .int .i64 (begE A M k t n)]) ∧ Gr w' w2) := by
        intro w' g
        have hxa : inA (atA A t) := by rw [← hx]; exact h.ra _ (List.getElem_mem hp)
        rw [hE0] at he ⊢
        exact changedD_no A M (atA A t) (mvY Act.chDo (atA A t) k t n) k n t (mvX Act.chDo (atA A t) k t n) (Led.pos (Led.nm A) t) b off capA adM capM w' hp hx (h.a.gr g) he (fun w'' g2 => HF.out w'' (g.trans g2)) (fun w'' => doX_any (atA A t) k n t w'' hxa ht)
      have hne : (begE A M k t n != 0) = true := by simpa using he
      clear h hm he hM hh hE0 hx hp
      generalize begE A M k t n = er at *
      generalize Led.pos (Led.nm A) t = p at *
      go_enter Try.func57, Try.ntmps57
      go_wp2_with fail
      refine (HF.out _ ((Gr.refl _).alloc.alloc.alloc)).mono ?_
      rintro e w1 ⟨rfl, hg1⟩
      obtain ⟨B, X, R, g1⟩ := HB.out w1 hg1
      have HR : Hid (TwoAt w1 (w.heap.size + 1 + 1) (.slice none 0 0) (.slice none 0 0)) := R
      have HBB : Hid (TwoAt w1 w.heap.size (.slice (some ⟨b, off, none⟩) A.length capA) (.slice adM M.length capM)) := B
      obtain ⟨b0, b1, _, _, bl⟩ := B
      obtain ⟨a0, a1, a2, _, _, _, al⟩ := X
      clear hg1 R
      go_wp2_with fail
      refine (HC.out _ g1).mono ?_
      rintro e w2 ⟨rfl, hg2⟩
      obtain ⟨r0, r1, f0, f1, rl⟩ := HR.out.gr hg2
      obtain ⟨b0, b1, bf0, bf1, bl⟩ := HBB.out.gr hg2
      have g2 : Gr w w2 := g1.trans hg2
      clear hg2 g1 a0 a1 a2 al
      go_wp2
      exact bodyPost_ret (v := .tuple #[.agg #[.slice none 0 0, .slice none 0 0], .int .i64 er]) (by simp [results, Try.results57, go_sem, *]) rfl ⟨rfl, (((g2.set _ (by simp) _).set _ (by simp) _).set _ (by simp; omega) _).set _ (by simp; omega) _⟩
set_option maxHeartbeats 4000000 in
set_option maxRecDepth 100000 in
theorem begin_yes (A : List Acc) (M : List Mk) (k n : Int) (t key : ByteArray) (adA : Option Addr) (capA : Nat) (adM : Option Addr) (capM : Nat) (w : World) (h : LedAt w adA adM A M) (hm : Led.mayB A M = true) (ht : t.size ≤ 9223372036854775807) (hkey : key.size ≤ 1000) (he : begE A M k t n = 0) :
    Calls Try.prog 57 #[.agg #[.slice adA A.length capA, .slice adM M.length capM], .int .i64 (Led.pos (Led.ky M) key : Nat), .string key, .agg #[.int .i64 k, .string t, .int .i64 n]] w fun e w' => ∃ v1 v2, e = .returned (.tuple #[.agg #[v1, v2], .int .i64 0]) ∧ w'.ownsRow w.heap.size 31 7 v1 A.length ((A.set (Led.pos (Led.nm A) t) (mvA Act.chDo (atA A t) k n)).flatMap accC) ∧ w'.ownsRow w.heap.size 64 5 v2 (M.length + 1) ((insK M ⟨key, k, t, n, 1⟩).flatMap mkC) ∧ Gr w w' := by
  have hM := (Led.may_iff A M).1 hm
  have hall : Led.hasB (Led.nm A) t = true ∧ M.length < 500 ∧ mvX Act.chDo (atA A t) k t n = 0 := by
    unfold begE at he
    cases hh : Led.hasB (Led.nm A) t with
    | false => rw [hh] at he; cases he
    | true =>
      rw [hh, if_pos rfl] at he
      by_cases hl : 500 ≤ M.length
      · rw [if_pos hl] at he; cases he
      · rw [if_neg hl] at he; exact ⟨rfl, by omega, he⟩
  obtain ⟨hh, hl, hmv⟩ := hall
  have HF : Hid (∀ w', Gr w w' → Calls Try.prog 30 #[.slice adA A.length capA, .string t] w' fun e w2 => e = .returned (.tuple #[.int .i64 (Led.pos (Led.nm A) t : Nat), .bool true]) ∧ Gr w' w2) := fun w' g => by have := findA_any A t adA capA w' (h.a.gr g) hM.ua (by have := hM.la; omega); rw [hh] at this; exact this
  have hmf : ∀ (fn : Fn) (first cap : Array Value) (w : World), (Instr.makeFunc fn first cap).run Try.prog w = .ok (.func fn first cap) w := fun _ _ _ _ => rfl
  have hli : ¬ (500 : Int) ≤ (M.length : Int) := by omega
  obtain ⟨hp, hpe⟩ := Led.pos_mem hM.ua ((Led.has_iff _ _).1 hh)
  rw [Led.nm_len] at hp
  obtain ⟨b, off, rfl⟩ : ∃ b off, adA = some ⟨b, off, none⟩ := by obtain ⟨b, off, e, _⟩ := AccsAt.at h.a (Led.pos (Led.nm A) t) hp; exact ⟨b, off, e⟩
  have hx : A[Led.pos (Led.nm A) t] = atA A t := by unfold atA; rw [List.getD_eq_getElem?_getD, List.getElem?_eq_getElem hp]; rfl
  have hts : t.size ≤ 1000 := by
    have e1 := Led.nm_get A _ hp
    rw [hpe] at e1
    rw [e1]; exact acc_small hm _ (List.getElem_mem hp)
  have HC : Hid (∀ w', Gr w w' → Calls Try.prog 82 #[.agg #[.slice (some ⟨b, off, none⟩) A.length capA, .slice adM M.length capM], .func (.func 30) #[.slice (some ⟨b, off, none⟩) A.length capA] #[], .agg #[.int .i64 k, .string t, .int .i64 n], .func (.func 83) #[] #[]] w' fun e w2 => ∃ v1 v2, e = .returned (.tuple #[.agg #[v1, v2], .int .i64 0]) ∧ w2.ownsRow w'.heap.size 31 7 v1 A.length ((A.set (Led.pos (Led.nm A) t) (mvA Act.chDo (atA A t) k n)).flatMap accC) ∧ w2.ownsRow w'.heap.size 64 5 v2 M.length (M.flatMap mkC) ∧ Gr w' w2) := by
    intro w' g
    have hxa : inA (atA A t) := by rw [← hx]; exact h.ra _ (List.getElem_mem hp)
    rw [← mvY_ok hmv]
    exact changedD_yes A M (atA A t) (mvY Act.chDo (atA A t) k t n) k n t (Led.pos (Led.nm A) t) b off capA adM capM w' hp hx hM.la (h.a.gr g) (fun w'' g2 => HF.out w'' (g.trans g2)) (fun w'' => by have := doX_any (atA A t) k n t w'' hxa ht; rw [hmv] at this; exact this)
      (fun w'' g2 => copied_any A M _ capA adM capM w'' (h.a.gr (g.trans g2)) (h.m.gr (g.trans g2)) (by have := hM.la; omega) (by have := hM.lm; omega) (acc_small hm) (mk_small hm))
  have HCk : Hid (∀ w', Calls Try.prog 31 #[.string key] w' fun e w2 => e = .returned (.string key) ∧ Gr w' w2) := fun w' => clone_any key w' (by omega)
  have HCt : Hid (∀ w', Calls Try.prog 31 #[.string t] w' fun e w2 => e = .returned (.string t) ∧ Gr w' w2) := fun w' => clone_any t w' (by omega)
  have hpl : Led.pos (Led.ky M) key ≤ M.length := by have := Led.pos_le (Led.ky M) key; rw [Led.ky_len] at this; exact this
  have HI : Hid (∀ (v : Value) (vb base : Nat) (w' : World), base ≤ w'.heap.size → w'.ownsRow base 64 5 v M.length (M.flatMap mkC) → w'.heap[vb]? = some (.cells (mkC ⟨key, k, t, n, 1⟩).toArray 64 (0, 0)) → v.ownBlock ≠ some vb →
      Calls Try.prog 84 #[v, .int .i64 (Led.pos (Led.ky M) key : Nat), .slice (some ⟨vb, 0, none⟩) 1 1] w' fun e w2 => ∃ a c, e = .returned (.slice a (M.length + 1) c) ∧ w2.ownsRow base 64 5 (.slice a (M.length + 1) c) (M.length + 1) ((insK M ⟨key, k, t, n, 1⟩).flatMap mkC) ∧ w'.grownBy w2 v.ownBlock) := fun v vb base w' h1 h2 h3 h4 =>
    (insM_any M ⟨key, k, t, n, 1⟩ (Led.pos (Led.ky M) key) v vb base w' hpl (by omega) h1 h2 h3 h4).mono (by
      rintro e w2 ⟨v', rfl, h5, h6⟩
      have h7 : w2.ownsRow base 64 5 v' (insK M ⟨key, k, t, n, 1⟩).length ((insK M ⟨key, k, t, n, 1⟩).flatMap mkC) := by rw [insK_len]; exact h5
      obtain ⟨a, c, rfl, _⟩ := own_row h7
      rw [insK_len] at h7 ⊢
      exact ⟨a, c, rfl, h7, h6⟩)
  have hAl : (A.set (Led.pos (Led.nm A) t) (mvA Act.chDo (atA A t) k n)).length = A.length := List.length_set
  have HOR : Hid (∀ (v : Value) (base : Nat) (w' : World), w'.ownsRow base 31 7 v A.length ((A.set (Led.pos (Led.nm A) t) (mvA Act.chDo (atA A t) k n)).flatMap accC) → ∃ a c, v = .slice a A.length c) := by
    intro v base w' hv
    rw [← hAl] at hv
    obtain ⟨a, c, rfl, _⟩ := own_row hv
    rw [hAl]
    exact ⟨a, c, rfl⟩
  clear h hm he hM hh hx hp hpe hmv hpl hAl
  generalize (insK M ⟨key, k, t, n, 1⟩).flatMap mkC = FM at *
  generalize (A.set (Led.pos (Led.nm A) t) (mvA Act.chDo (atA A t) k n)).flatMap accC = FA at *
  generalize Led.pos (Led.nm A) t = p at *
  generalize Led.pos (Led.ky M) key = r at *
  go_enter Try.func57, Try.ntmps57
  go_wp2_with fail
  refine (HF.out _ ((Gr.refl _).alloc.alloc.alloc)).mono ?_
  rintro e w1 ⟨rfl, hg1⟩
  have HB1 : Hid (TwoAt w1 w.heap.size (.slice (some ⟨b, off, none⟩) A.length capA) (.slice adM M.length capM)) := (((TwoAt.new w _ _ _ _ rfl).gr (Gr.refl _).alloc).gr (Gr.refl _).alloc).gr hg1
  have HX1 : Hid (BoxAt w1 (w.heap.size + 1) (.int .i64 k) (.string t) (.int .i64 n)) := ((BoxAt.new _ _ _ _ _ (w.heap.size + 1) (by simp)).gr (Gr.refl _).alloc).gr hg1
  have HR1 : Hid (TwoAt w1 (w.heap.size + 1 + 1) (.slice none 0 0) (.slice none 0 0)) := (TwoAt.new _ _ _ _ (w.heap.size + 1 + 1) (by simp)).gr hg1
  have g1 : Gr w w1 := (by repeat (first | exact Gr.refl _ | refine Gr.alloc ?_ | refine Gr.drew ?_ | refine Gr.trans ?_ (by assumption)))
  obtain ⟨b0, b1, _, _, bl⟩ := HB1.out
  obtain ⟨a0, a1, a2, _, _, _, al⟩ := HX1.out
  clear hg1
  go_wp2_with fail
  refine (HC.out _ g1).mono ?_
  rintro e w2 ⟨v1, v2, rfl, ho1, ho2, hg2⟩
  obtain ⟨ad1, cap1, rfl⟩ := HOR.out _ _ _ ho1
  obtain ⟨ad2, cap2, rfl, _⟩ := own_row ho2
  have hrl1 : w.heap.size + 1 + 1 < w1.heap.size := HR1.out.lt
  have HO2 : Hid (w2.ownsRow w1.heap.size 31 7 (.slice ad1 A.length cap1) A.length FA) := ho1
  have HP2 : Hid (w2.ownsRow w1.heap.size 64 5 (.slice ad2 M.length cap2) M.length (M.flatMap mkC)) := ho2
  have HB2 : Hid (TwoAt w2 w.heap.size (.slice (some ⟨b, off, none⟩) A.length capA) (.slice adM M.length capM)) := HB1.out.gr hg2
  have HX2 : Hid (BoxAt w2 (w.heap.size + 1) (.int .i64 k) (.string t) (.int .i64 n)) := HX1.out.gr hg2
  have HR2 : Hid (TwoAt w2 (w.heap.size + 1 + 1) (.slice none 0 0) (.slice none 0 0)) := HR1.out.gr hg2
  have HG2 : Hid (Gr w w2) := g1.trans hg2
  have hs12 := hg2.size
  obtain ⟨b0, b1, bf0, bf1, bl⟩ := HB2.out
  obtain ⟨a0, a1, a2, _, af1, _, al⟩ := HX2.out
  clear hg2 g1 HB1 HX1 HR1 ho1 ho2
  go_wp2_with fail
  refine (HCt.out _).mono ?_
  rintro e w3 ⟨rfl, hg3⟩
  obtain ⟨W2, hW2⟩ : ∃ W, W = ((w2.setCell ⟨w.heap.size, 0, none⟩ (.slice ad1 A.length cap1)).setCell ⟨w.heap.size, 1, none⟩ (.slice ad2 M.length cap2)) := ⟨_, rfl⟩
  have m1 : ∀ i, i < w1.heap.size → (Value.slice ad1 A.length cap1).ownBlock ≠ some i := fun i hi h => by have := (HO2.out.lt _ h).1; omega
  have m2 : ∀ i, i < w1.heap.size → (Value.slice ad2 M.length cap2).ownBlock ≠ some i := fun i hi h => by have := (HP2.out.lt _ h).1; omega
  rw [← hW2] at hg3
  have HO3 : Hid (w3.ownsRow w1.heap.size 31 7 (.slice ad1 A.length cap1) A.length FA) := own_gr2 (by rw [hW2]; exact own_far (own_far HO2.out _ _ (m1 _ (by simp; omega))) _ _ (m1 _ (by simp; omega))) hg3
  have HP3 : Hid (w3.ownsRow w1.heap.size 64 5 (.slice ad2 M.length cap2) M.length (M.flatMap mkC)) := own_gr2 (by rw [hW2]; exact own_far (own_far HP2.out _ _ (m2 _ (by simp; omega))) _ _ (m2 _ (by simp; omega))) hg3
  have HB3 : Hid (TwoAt w3 w.heap.size (.slice ad1 A.length cap1) (.slice ad2 M.length cap2)) := TwoAt.gr (by rw [hW2]; exact HB2.out.set2 _ _) hg3
  have HX3 : Hid (BoxAt w3 (w.heap.size + 1) (.int .i64 k) (.string t) (.int .i64 n)) := BoxAt.gr (by rw [hW2]; exact (HX2.out.setFar _ _ (by simp)).setFar _ _ (by simp)) hg3
  have HR3 : Hid (TwoAt w3 (w.heap.size + 1 + 1) (.slice none 0 0) (.slice none 0 0)) := TwoAt.gr (by rw [hW2]; exact (HR2.out.far _ _ (by simp; omega)).far _ _ (by simp; omega)) hg3
  have HG3 : Hid (Gr w w3) := Gr.trans (by rw [hW2]; exact (HG2.out.set _ (by simp) _).set _ (by simp) _) hg3
  obtain ⟨b0, b1, bf0, bf1, bl⟩ := HB3.out
  obtain ⟨a0, a1, a2, _, af1, _, al⟩ := HX3.out
  have HS3 : Hid (w1.heap.size ≤ w3.heap.size) := Nat.le_trans (by rw [hW2]; simpa using hs12) hg3.size
  clear hg3 hW2 HO2 HP2 HB2 HX2 HR2 HG2
  go_upto_region 11 with fail
  obtain ⟨W, hW⟩ : ∃ W, W = w3.setCell ⟨w.heap.size + 1, 1, none⟩ (.string t) := ⟨_, rfl⟩
  rw [← hW]
  have HOW : Hid (W.ownsRow w1.heap.size 31 7 (.slice ad1 A.length cap1) A.length FA) := by show World.ownsRow _ _ _ _ _ _ _; rw [hW]; exact own_far HO3.out _ _ (m1 _ (by simp; omega))
  have HPW : Hid (W.ownsRow w1.heap.size 64 5 (.slice ad2 M.length cap2) M.length (M.flatMap mkC)) := by show World.ownsRow _ _ _ _ _ _ _; rw [hW]; exact own_far HP3.out _ _ (m2 _ (by simp; omega))
  have HBW : Hid (TwoAt W w.heap.size (.slice ad1 A.length cap1) (.slice ad2 M.length cap2)) := by show TwoAt _ _ _ _; rw [hW]; exact HB3.out.far _ _ (by simp)
  have HXW : Hid (BoxAt W (w.heap.size + 1) (.int .i64 k) (.string t) (.int .i64 n)) := by show BoxAt _ _ _ _ _; rw [hW]; exact HX3.out.mid _
  have HRW : Hid (TwoAt W (w.heap.size + 1 + 1) (.slice none 0 0) (.slice none 0 0)) := by show TwoAt _ _ _ _; rw [hW]; exact HR3.out.far _ _ (by simp)
  have HGW : Hid (Gr w W) := by show Gr _ _; rw [hW]; exact HG3.out.set _ (by simp) _
  have HSz : Hid (w1.heap.size ≤ W.heap.size) := by
    show _ ≤ _
    rw [hW]
    have := HS3.out
    simpa using this
  clear hW HO3 HP3 HB3 HX3 HR3 HG3 b0 b1 bf0 bf1 bl a0 a1 a2 af1 al
  have hk : Gr w W.drew ∧ W.drew.cell? ⟨w.heap.size, 1, none⟩ = some (.slice ad2 M.length cap2) ∧ W.drew.cell? ⟨w.heap.size + 1, 0, none⟩ = some (.int .i64 k) ∧ W.drew.cell? ⟨w.heap.size + 1, 1, none⟩ = some (.string t) ∧ W.drew.cell? ⟨w.heap.size + 1, 2, none⟩ = some (.int .i64 n) := ⟨HGW.out.drew, HBW.out.c1, HXW.out.c0, HXW.out.c1, HXW.out.c2⟩
  refine beginL 10 (fun w' => Gr w w' ∧ w'.cell? ⟨w.heap.size, 1, none⟩ = some (.slice ad2 M.length cap2) ∧ w'.cell? ⟨w.heap.size + 1, 0, none⟩ = some (.int .i64 k) ∧ w'.cell? ⟨w.heap.size + 1, 1, none⟩ = some (.string t) ∧ w'.cell? ⟨w.heap.size + 1, 2, none⟩ = some (.int .i64 n)) (by kernel_rfl) (by first | with_reducible exact hk | with_reducible exact hk5 hk (Gr.refl _).alloc) (fun hHeld => ?_)
  refine takeW 0 47 (v := ?_) rfl rfl (by decide) (by kernel_rfl) (by kernel_rfl) (by kernel_rfl) (fun _ _ _ h => h) (by rfl) ?_ (fun _ => hHeld) ?_
  rotate_left
  · (intro w; (try intro hSw); (try dsimp only at hSw); go_simp; try with_reducible rfl)
  simp only [Act.put, List.setIfInBounds_toArray, List.set_cons_zero, List.set_cons_succ]
  refine takeS 1 48 (v := ?_) rfl rfl (by decide) (by kernel_rfl) (by kernel_rfl) (by kernel_rfl) (by kernel_rfl) (by kernel_rfl) (fun _ _ _ h => h) (by rfl) ?_ hHeld ?_
  rotate_left
  · (intro w; (try intro hSw); (try dsimp only at hSw); go_simp; try with_reducible rfl)
  simp only [Act.put, List.setIfInBounds_toArray, List.set_cons_zero, List.set_cons_succ]
  refine takeW 2 49 (v := ?_) rfl rfl (by decide) (by kernel_rfl) (by kernel_rfl) (by kernel_rfl) (fun _ _ _ h => h) (by rfl) ?_ (fun _ => hHeld) ?_
  rotate_left
  · (intro w; (try intro hSw); (try dsimp only at hSw); go_simp; try with_reducible rfl)
  simp only [Act.put, List.setIfInBounds_toArray, List.set_cons_zero, List.set_cons_succ]
  refine takeW 3 50 (v := ?_) rfl rfl (by decide) (by kernel_rfl) (by kernel_rfl) (by kernel_rfl) (fun _ _ _ h => h) (by rfl) ?_ (fun _ => hHeld) ?_
  rotate_left
  · (intro w; (try intro hSw); (try dsimp only at hSw); go_simp; try with_reducible rfl)
  simp only [Act.put, List.setIfInBounds_toArray, List.set_cons_zero, List.set_cons_succ]
  refine takeS 5 52 (v := ?_) rfl rfl (by decide) (by kernel_rfl) (by kernel_rfl) (by kernel_rfl) (by kernel_rfl) (by kernel_rfl) (fun _ _ _ h => h) (by rfl) ?_ hHeld ?_
  rotate_left
  · (intro w; (try intro hSw); (try dsimp only at hSw); go_simp; try with_reducible rfl)
  simp only [Act.put, List.setIfInBounds_toArray, List.set_cons_zero, List.set_cons_succ]
  refine stepC 4 (by kernel_rfl) rfl (fun K hK => ?_)
  go_simp
  (go_at_call 31; refine (HCk.out _).mono ?_; rintro e wn ⟨rfl, hgn⟩; replace hk := hk5 hk hgn)
  (try go_wp2_with fail)
  refine hK.out _ _ (by first | with_reducible exact hk | with_reducible exact hk5 hk (Gr.refl _).alloc) (fun hHeldN => ?_)
  clear hHeld hK K
  have hHeld := hHeldN
  clear hHeldN
  refine takeW 6 53 (v := ?_) rfl rfl (by decide) (by kernel_rfl) (by kernel_rfl) (by kernel_rfl) (fun _ _ _ h => h) (by rfl) ?_ (fun _ => hHeld) ?_
  rotate_left
  · (intro w; (try intro hSw); (try dsimp only at hSw); go_simp; try with_reducible rfl)
  simp only [Act.put, List.setIfInBounds_toArray, List.set_cons_zero, List.set_cons_succ]
  refine stepC 7 (by kernel_rfl) rfl (fun K hK => ?_)
  go_simp
  refine hK.out _ _ (by first | with_reducible exact hk | with_reducible exact hk5 hk (Gr.refl _).alloc) (fun hHeldN => ?_)
  clear hHeld hK K
  have hHeld := hHeldN
  clear hHeldN
  have gW : Gr W (wn.alloc (.cells (mkC ⟨key, k, t, n, 1⟩).toArray 64)) := ((Gr.refl W).drew.trans hgn).alloc
  have HP4 : Hid (World.ownsRow (wn.alloc (.cells (mkC ⟨key, k, t, n, 1⟩).toArray 64)) w1.heap.size 64 5 (.slice ad2 M.length cap2) M.length (M.flatMap mkC)) := own_gr2 HPW.out gW
  have HO4 : Hid (World.ownsRow (wn.alloc (.cells (mkC ⟨key, k, t, n, 1⟩).toArray 64)) w1.heap.size 31 7 (.slice ad1 A.length cap1) A.length FA) := own_gr2 HOW.out gW
  have HB4 : Hid (TwoAt (wn.alloc (.cells (mkC ⟨key, k, t, n, 1⟩).toArray 64)) w.heap.size (.slice ad1 A.length cap1) (.slice ad2 M.length cap2)) := HBW.out.gr gW
  have HX4 : Hid (BoxAt (wn.alloc (.cells (mkC ⟨key, k, t, n, 1⟩).toArray 64)) (w.heap.size + 1) (.int .i64 k) (.string t) (.int .i64 n)) := HXW.out.gr gW
  have HR4 : Hid (TwoAt (wn.alloc (.cells (mkC ⟨key, k, t, n, 1⟩).toArray 64)) (w.heap.size + 1 + 1) (.slice none 0 0) (.slice none 0 0)) := HRW.out.gr gW
  have HG4 : Hid (Gr w (wn.alloc (.cells (mkC ⟨key, k, t, n, 1⟩).toArray 64))) := HGW.out.trans gW
  have hvn : (Value.slice ad2 M.length cap2).ownBlock ≠ some wn.heap.size := fun h => by
    have := (HPW.out.lt _ h).2
    have := ((Gr.refl W).drew.trans hgn).size
    omega
  have hsz4 : w1.heap.size ≤ (wn.alloc (.cells (mkC ⟨key, k, t, n, 1⟩).toArray 64)).heap.size := Nat.le_trans HSz.out gW.size
  have nb : ∀ i, i < w1.heap.size → some i ≠ (Value.slice ad2 M.length cap2).ownBlock := fun i hi h => m2 i hi h.symm
  refine stepC 8 (by kernel_rfl) rfl (fun K hK => ?_)
  go_simp
  (go_at_call 84; refine (HI.out _ wn.heap.size w1.heap.size _ hsz4 HP4.out (heap_alloc_new wn _) hvn).mono ?_; rintro e w6 ⟨a6, c6, rfl, ho6, hgr6⟩; replace hk : Gr w w6 ∧ w6.cell? ⟨w.heap.size, 1, none⟩ = some (.slice ad2 M.length cap2) ∧ w6.cell? ⟨w.heap.size + 1, 0, none⟩ = some (.int .i64 k) ∧ w6.cell? ⟨w.heap.size + 1, 1, none⟩ = some (.string t) ∧ w6.cell? ⟨w.heap.size + 1, 2, none⟩ = some (.int .i64 n) := ⟨HG4.out.grown hgr6 (fun g hg => by have := (HP4.out.lt g hg).1; omega), hgr6.cell HB4.out.c1 (nb _ (by simp; omega)), hgr6.cell HX4.out.c0 (nb _ (by simp; omega)), hgr6.cell HX4.out.c1 (nb _ (by simp; omega)), hgr6.cell HX4.out.c2 (nb _ (by simp; omega))⟩)
  (try go_wp2_with fail)
  refine hK.out _ _ (by first | with_reducible exact hk | with_reducible exact hk5 hk (Gr.refl _).alloc) (fun hHeldN => ?_)
  clear hHeld hK K
  have hHeld := hHeldN
  clear hHeldN
  have B6 := HB4.out.grown hgr6 (nb _ (by omega))
  have R6 := HR4.out.grown hgr6 (nb _ (by omega))
  have HO6 : Hid (w6.ownsRow w1.heap.size 64 5 (.slice a6 (M.length + 1) c6) (M.length + 1) FM) := ho6
  have HP6 : Hid (w6.ownsRow w1.heap.size 31 7 (.slice ad1 A.length cap1) A.length FA) := HO4.out.kept hgr6 (by
    cases hv : (Value.slice ad2 M.length cap2).ownBlock with
    | none => exact (own_or _)
    | some g => exact Or.inr (own_apart HP4.out HO4.out (by decide) hv))
  have HG6 : Hid (Gr w w6) := hk.1
  obtain ⟨b0, b1, bf0, bf1, bl⟩ := B6
  obtain ⟨r0, r1, f0, f1, rl⟩ := R6
  clear hgn hvn hgr6 ho6 gW HP4 HO4 HB4 HX4 HR4 HG4 hsz4 nb HOW HPW HBW HXW HRW HGW
  refine takeW 9 56 (v := ?_) rfl rfl (by decide) (by kernel_rfl) (by kernel_rfl) (by kernel_rfl) (fun _ _ _ h => h) (by rfl) ?_ (fun _ => hHeld) ?_
  rotate_left
  · (intro w; (try intro hSw); (try dsimp only at hSw); go_simp; try with_reducible rfl)
  simp only [Act.put, List.setIfInBounds_toArray, List.set_cons_zero, List.set_cons_succ]
  refine stepS (by kernel_rfl) rfl (by kernel_rfl) (fun K hK => ?_)
  go_simp
  refine hK.out _ _ ?_
  clear hHeld hK K
  refine doneL (by kernel_rfl) ?_ _
  have HFin : Hid (∀ W, W = (((w6.setCell ⟨w.heap.size, 1, none⟩ (.slice a6 (M.length + 1) c6)).setCell ⟨w.heap.size + 1 + 1, 0, none⟩ (.slice ad1 A.length cap1)).setCell ⟨w.heap.size + 1 + 1, 1, none⟩ (.slice a6 (M.length + 1) c6)) →
      W.ownsRow w.heap.size 31 7 (.slice ad1 A.length cap1) A.length FA ∧ W.ownsRow w.heap.size 64 5 (.slice a6 (M.length + 1) c6) (M.length + 1) FM ∧ Gr w W) := by
    intro W hW
    subst hW
    have m6 : ∀ i, i < w1.heap.size → (Value.slice a6 (M.length + 1) c6).ownBlock ≠ some i := fun i hi h => by have := (HO6.out.lt _ h).1; omega
    exact ⟨own_far (own_far (own_far (own_low HP6.out (by omega)) _ _ (m1 _ (by simp; omega))) _ _ (m1 _ (by simp; omega))) _ _ (m1 _ (by simp; omega)), own_far (own_far (own_far (own_low HO6.out (by omega)) _ _ (m6 _ (by simp; omega))) _ _ (m6 _ (by simp; omega))) _ _ (m6 _ (by simp; omega)), ((HG6.out.set _ (by simp) _).set _ (by simp; omega) _).set _ (by simp; omega) _⟩
  clear hk
  go_wp2
  exact bodyPost_ret (v := .tuple #[.agg #[.slice ad1 A.length cap1, .slice a6 (M.length + 1) c6], .int .i64 0]) (by simp [results, Try.results57, go_sem, *]) rfl ⟨_, _, rfl, HFin.out _ rfl⟩
end Go.Proofs.Ytgidkmipecfjhaa
