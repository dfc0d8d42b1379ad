/- Plain mathematics of ledgers: the order of texts, rows whose names rise, what may be, what is pending. -/
import Derived.Test.YtiakajheoajepaaActU
import Derived.Lib.Bytealg
namespace Go.Proofs.Ytiakajheoajepaa.Led

/- the order of texts -/
def lt (x y : ByteArray) : Bool := Op.bytesLess x.toList y.toList
theorem bl_irrefl : ∀ l : List UInt8, Op.bytesLess l l = false
  | [] => rfl
  | a :: x => by simp [Op.bytesLess, bl_irrefl x]
theorem bl_trans : ∀ x y z : List UInt8, Op.bytesLess x y = true → Op.bytesLess y z = true → Op.bytesLess x z = true
  | x, [], _, h, _ => by cases x <;> simp [Op.bytesLess] at h
  | _, b :: y, [], _, h => by simp [Op.bytesLess] at h
  | [], _ :: _, _ :: _, _, _ => rfl
  | a :: x, b :: y, c :: z, h1, h2 => by
    simp only [Op.bytesLess, Bool.or_eq_true, Bool.and_eq_true, decide_eq_true_eq, beq_iff_eq] at h1 h2 ⊢
    rcases h1 with h1 | ⟨rfl, h1⟩
    · rcases h2 with h2 | ⟨rfl, h2⟩
      · exact Or.inl (UInt8.lt_trans h1 h2)
      · exact Or.inl h1
    · rcases h2 with h2 | ⟨rfl, h2⟩
      · exact Or.inl h2
      · exact Or.inr ⟨rfl, bl_trans x y z h1 h2⟩
theorem bl_tri : ∀ x y : List UInt8, Op.bytesLess x y = false → Op.bytesLess y x = false → x = y
  | [], [], _, _ => rfl
  | [], _ :: _, h, _ => by simp [Op.bytesLess] at h
  | _ :: _, [], _, h => by simp [Op.bytesLess] at h
  | a :: x, b :: y, h1, h2 => by
    simp only [Op.bytesLess, Bool.or_eq_false_iff, Bool.and_eq_false_iff, decide_eq_false_iff_not] at h1 h2
    have e : a = b := UInt8.le_antisymm (UInt8.not_lt.1 h2.1) (UInt8.not_lt.1 h1.1)
    subst e
    rw [bl_tri x y (by simpa using h1.2) (by simpa using h2.2)]
theorem cmp_sign : ∀ x y : List UInt8, (Lib.compareBytes x y < 0 ↔ Op.bytesLess x y = true) ∧ (Lib.compareBytes x y = 0 ↔ x = y)
  | [], [] => by simp [Lib.compareBytes, Op.bytesLess]
  | [], _ :: _ => by simp [Lib.compareBytes, Op.bytesLess]
  | _ :: _, [] => by simp [Lib.compareBytes, Op.bytesLess]
  | a :: x, b :: y => by
    obtain ⟨h1, h2⟩ := cmp_sign x y
    unfold Lib.compareBytes Op.bytesLess
    by_cases hab : a < b
    · rw [if_pos hab]
      refine ⟨by simp [hab], ?_⟩
      simp
      intro e; subst e; exact absurd hab (UInt8.lt_irrefl a)
    · rw [if_neg hab]
      by_cases hba : b < a
      · rw [if_pos hba]
        have : ¬ a = b := fun e => by subst e; exact hab hba
        simp [hab, this]
      · rw [if_neg hba]
        have e : a = b := UInt8.le_antisymm (UInt8.not_lt.1 hba) (UInt8.not_lt.1 hab)
        subst e
        simp [h1, h2, hab]
theorem toL (x : ByteArray) : x.toList = x.data.toList := ByteArray.toList_eq x
theorem lt_irrefl (x : ByteArray) : lt x x = false := bl_irrefl _
theorem lt_trans {x y z : ByteArray} (h : lt x y = true) (k : lt y z = true) : lt x z = true := bl_trans _ _ _ h k
theorem toL_inj {x y : ByteArray} (h : x.toList = y.toList) : x = y := by
  rw [toL, toL] at h
  cases x; cases y
  simp at h
  rw [h]
theorem lt_tri {x y : ByteArray} (h : lt x y = false) (k : lt y x = false) : x = y := toL_inj (bl_tri _ _ h k)
theorem lt_asymm {x y : ByteArray} (h : lt x y = true) : lt y x = false := by
  cases k : lt y x with
  | false => rfl
  | true => have := lt_trans h k; rw [lt_irrefl] at this; cases this
theorem lt_ne {x y : ByteArray} (h : lt x y = true) : x ≠ y := fun e => by rw [e, lt_irrefl] at h; cases h
theorem ge_trans {x y z : ByteArray} (h : lt x z = false) (k : lt x y = true) : lt y z = false := by
  cases e : lt y z with
  | false => rfl
  | true => rw [lt_trans k e] at h; cases h
def cmpE (x y : ByteArray) : Int := Lib.compareBytes x.data.toList y.data.toList
theorem cmp_neg (x y : ByteArray) : cmpE x y < 0 ↔ lt x y = true := by unfold cmpE lt; rw [toL, toL]; exact (cmp_sign _ _).1
theorem cmp_zero (x y : ByteArray) : cmpE x y = 0 ↔ x = y := by
  unfold cmpE
  rw [(cmp_sign _ _).2]
  constructor
  · intro h; exact toL_inj (by rw [toL, toL]; exact h)
  · intro h; rw [h]

/- rows that rise -/
def upB : List ByteArray → Bool
  | [] => true
  | [_] => true
  | x :: y :: t => lt x y && upB (y :: t)
theorem up_iff : ∀ L : List ByteArray, upB L = true ↔ ∀ j (h : j + 1 < L.length), lt L[j] L[j + 1] = true
  | [] => by simp [upB]
  | [_] => by simp [upB]
  | x :: y :: t => by
    rw [upB, Bool.and_eq_true, up_iff (y :: t)]
    constructor
    · rintro ⟨h1, h2⟩ j hj
      cases j with
      | zero => exact h1
      | succ j => exact h2 j (by simpa using hj)
    · intro h
      exact ⟨h 0 (by simp), fun j hj => h (j + 1) (by simpa using hj)⟩
theorem up_lt {L : List ByteArray} (h : upB L = true) : ∀ i j (hi : i < j) (hj : j < L.length), lt L[i] L[j] = true := by
  rw [up_iff] at h
  intro i j hij
  induction j with
  | zero => omega
  | succ j ih =>
    intro hj
    by_cases e : i = j
    · subst e; exact h i hj
    · exact lt_trans (ih (by omega) (by omega)) (h j hj)
def hasB (L : List ByteArray) (s : ByteArray) : Bool := L.any (fun x => decide (x = s))
theorem has_iff (L : List ByteArray) (s : ByteArray) : hasB L s = true ↔ s ∈ L := by
  unfold hasB; rw [List.any_eq_true]
  constructor
  · rintro ⟨x, hx, e⟩; rw [decide_eq_true_eq] at e; rw [← e]; exact hx
  · intro h; exact ⟨s, h, decide_eq_true rfl⟩
/- where a text stands, or would stand -/
def pos (L : List ByteArray) (s : ByteArray) : Nat := (L.takeWhile (fun x => lt x s)).length
theorem pos_le (L : List ByteArray) (s : ByteArray) : pos L s ≤ L.length := by
  unfold pos; exact (List.takeWhile_sublist _).length_le
theorem pos_iff : ∀ (L : List ByteArray) (s : ByteArray), upB L = true → ∀ j (h : j < L.length), (lt L[j] s = true ↔ j < pos L s)
  | [], _, _, j, h => by simp at h
  | x :: t, s, hu, j, h => by
    have hut : upB t = true := by
      cases t with
      | nil => rfl
      | cons y t => rw [upB, Bool.and_eq_true] at hu; exact hu.2
    cases hx : lt x s with
    | true =>
      have hp : pos (x :: t) s = pos t s + 1 := by unfold pos; rw [List.takeWhile_cons, hx]; simp
      rw [hp]
      cases j with
      | zero => simp [hx]
      | succ j => rw [List.getElem_cons_succ, pos_iff t s hut j (by simpa using h)]; omega
    | false =>
      have hp : pos (x :: t) s = 0 := by unfold pos; rw [List.takeWhile_cons, hx]; simp
      rw [hp]
      have : lt (x :: t)[j] s = false := by
        cases j with
        | zero => exact hx
        | succ j => exact ge_trans hx (up_lt hu 0 (j + 1) (by omega) h)
      simp [this]
theorem pos_eq {L : List ByteArray} {s : ByteArray} (hu : upB L = true) (j : Nat) (h : j < L.length) (e : L[j] = s) : pos L s = j := by
  have h1 : ¬ j < pos L s := by rw [← pos_iff L s hu j h, e, lt_irrefl]; simp
  by_cases h2 : pos L s < j
  · have := (pos_iff L s hu (pos L s) (by omega))
    have h3 := up_lt hu _ _ h2 h
    rw [e] at h3
    rw [h3] at this; simp at this
  · omega
theorem pos_mem {L : List ByteArray} {s : ByteArray} (hu : upB L = true) (hm : s ∈ L) : ∃ h : pos L s < L.length, L[pos L s] = s := by
  obtain ⟨j, hj, e⟩ := List.getElem_of_mem hm
  have := pos_eq hu j hj e
  exact ⟨by omega, by simp only [this, e]⟩
theorem pos_not {L : List ByteArray} {s : ByteArray} (hm : s ∉ L) (h : pos L s < L.length) : L[pos L s] ≠ s := fun e => hm (by rw [← e]; exact List.getElem_mem h)
theorem pos_gt {L : List ByteArray} {s : ByteArray} (hu : upB L = true) (hm : s ∉ L) : ∀ j (h : j < L.length), pos L s ≤ j → lt s L[j] = true := by
  intro j h hj
  have h1 : lt L[j] s = false := by
    cases e : lt L[j] s with
    | false => rfl
    | true => have := (pos_iff L s hu j h).1 e; omega
  cases e : lt s L[j] with
  | true => rfl
  | false => exact absurd (List.getElem_mem h) (by rw [lt_tri h1 e]; exact hm)
theorem up_one {L : List ByteArray} (hu : upB L = true) {i j : Nat} (hi : i < L.length) (hj : j < L.length) (e : L[i] = L[j]) : i = j := by
  rw [← pos_eq hu i hi e, pos_eq hu j hj rfl]
theorem up_ins {L : List ByteArray} {s : ByteArray} (hu : upB L = true) (hm : s ∉ L) : upB (L.take (pos L s) ++ s :: L.drop (pos L s)) = true := by
  have hp := pos_le L s
  rw [up_iff]
  intro j hj
  have hlen : (L.take (pos L s)).length = pos L s := by rw [List.length_take]; omega
  rw [List.length_append, List.length_cons, List.length_drop, hlen] at hj
  by_cases h1 : j + 1 < pos L s
  · rw [List.getElem_append_left (by omega), List.getElem_append_left (by omega), List.getElem_take, List.getElem_take]
    exact up_lt hu _ _ (by omega) _
  · by_cases h2 : j + 1 = pos L s
    · rw [List.getElem_append_left (by omega), List.getElem_append_right (by omega), List.getElem_take]
      simp only [hlen, h2, Nat.sub_self, List.getElem_cons_zero]
      exact (pos_iff L s hu j (by omega)).2 (by omega)
    · rw [List.getElem_append_right (by omega), List.getElem_append_right (by omega)]
      simp only [hlen]
      have e1 : j + 1 - pos L s = (j - pos L s) + 1 := by omega
      simp only [e1, List.getElem_cons_succ, List.getElem_drop]
      by_cases h3 : j = pos L s
      · simp only [h3, Nat.sub_self, List.getElem_cons_zero]
        exact pos_gt hu hm _ _ (by omega)
      · have e2 : j - pos L s = (j - pos L s - 1) + 1 := by omega
        rw [List.getElem_cons, dif_neg (by omega), List.getElem_drop]
        exact up_lt hu _ _ (by omega) _

/- accounts and marks -/
structure Acc where
  s : ByteArray
  a : Int
  b : Int
  c : Int
  x : Int
  y : Int
  z : Int
structure Mk where
  key : ByteArray
  k : Int
  t : ByteArray
  n : Int
  st : Int
def nm (A : List Acc) : List ByteArray := A.map Acc.s
def ky (M : List Mk) : List ByteArray := M.map Mk.key
theorem nm_len (A : List Acc) : (nm A).length = A.length := by simp [nm]
theorem ky_len (M : List Mk) : (ky M).length = M.length := by simp [ky]
theorem nm_get (A : List Acc) (j : Nat) (h : j < A.length) : (nm A)[j]'(by rw [nm_len]; exact h) = A[j].s := by simp [nm]
theorem ky_get (M : List Mk) (j : Nat) (h : j < M.length) : (ky M)[j]'(by rw [ky_len]; exact h) = M[j].key := by simp [ky]
def accOk (x : Acc) : Bool := Act.accB x.s x.a x.b x.c x.x x.y x.z
def accsB (A : List Acc) : Bool := decide (A.length ≤ 12) && A.all accOk && upB (nm A)
def keyB (s : ByteArray) : Bool := decide (0 < s.size) && decide (s.size ≤ 100)
def mkOk (A : List Acc) (m : Mk) : Bool := keyB m.key && Act.actB m.k m.t m.n && hasB (nm A) m.t && (decide (1 ≤ m.st) && decide (m.st ≤ 3))
def mksB (A : List Acc) (M : List Mk) : Bool := decide (M.length ≤ 500) && M.all (mkOk A) && upB (ky M)
def amF (m : Mk) : Int := Act.dF m.k m.t m.n
def amK (m : Mk) : Int := Act.dK m.k m.t m.n
/- sums over marks -/
def sm (g : Mk → Int) : List Mk → Int
  | [] => 0
  | m :: t => g m + sm g t
theorem sm_app (g : Mk → Int) (L M : List Mk) : sm g (L ++ M) = sm g L + sm g M := by
  induction L with
  | nil => simp [sm]
  | cons m t ih => simp only [List.cons_append, sm, ih]; omega
theorem sm_take (g : Mk → Int) (M : List Mk) (k : Nat) (h : k < M.length) : sm g (M.take (k + 1)) = sm g (M.take k) + g M[k] := by
  rw [List.take_succ_eq_append_getElem h, sm_app]; simp [sm]
theorem sm_congr {f g : Mk → Int} {M : List Mk} (h : ∀ m ∈ M, f m = g m) : sm f M = sm g M := by
  induction M with
  | nil => rfl
  | cons m t ih => simp only [sm]; rw [h m (by simp), ih (fun x hx => h x (by simp [hx]))]
theorem sm_zero {g : Mk → Int} {M : List Mk} (h : ∀ m ∈ M, g m = 0) : sm g M = 0 := by
  induction M with
  | nil => rfl
  | cons m t ih => simp only [sm]; rw [h m (by simp), ih (fun x hx => h x (by simp [hx]))]; rfl
theorem sm_nonneg {g : Mk → Int} {M : List Mk} (h : ∀ m ∈ M, 0 ≤ g m) : 0 ≤ sm g M := by
  induction M with
  | nil => exact Int.le_refl 0
  | cons m t ih =>
    simp only [sm]
    have := h m (by simp)
    have := ih (fun x hx => h x (by simp [hx]))
    omega
theorem sm_bound {g : Mk → Int} {M : List Mk} (B : Int) (h : ∀ m ∈ M, -B ≤ g m ∧ g m ≤ B) : -(B * M.length) ≤ sm g M ∧ sm g M ≤ B * M.length := by
  induction M with
  | nil => simp [sm]
  | cons m t ih =>
    simp only [sm]
    have h1 := h m (by simp)
    have h2 := ih (fun x hx => h x (by simp [hx]))
    rw [List.length_cons, Int.natCast_add, Int.mul_add]
    simp only [Int.natCast_one, Int.mul_one]
    omega
theorem sm_mem {g : Mk → Int} {M : List Mk} (h : ∀ m ∈ M, 0 ≤ g m) {m : Mk} (hm : m ∈ M) : g m ≤ sm g M := by
  induction M with
  | nil => cases hm
  | cons x t ih =>
    simp only [sm]
    have h0 := h x (by simp)
    have h1 := sm_nonneg (g := g) (M := t) (fun y hy => h y (by simp [hy]))
    rcases List.mem_cons.1 hm with rfl | hm
    · omega
    · have := ih (fun y hy => h y (by simp [hy])) hm
      omega
theorem sm_set (g : Mk → Int) (M : List Mk) (p : Nat) (h : p < M.length) (m : Mk) : sm g (M.set p m) = sm g M - g M[p] + g m := by
  induction M generalizing p with
  | nil => simp at h
  | cons x t ih =>
    cases p with
    | zero => simp [sm]; omega
    | succ p =>
      have := ih p (by simpa using h)
      simp only [List.set_cons_succ, sm, List.getElem_cons_succ]
      omega
theorem sm_ins (g : Mk → Int) (M : List Mk) (p : Nat) (m : Mk) : sm g (M.take p ++ m :: M.drop p) = sm g M + g m := by
  have h := sm_app g (M.take p) (M.drop p)
  rw [List.take_append_drop] at h
  rw [sm_app]; simp only [sm]; omega
/- what is pending on an account, what is in effect -/
def hit (s : ByteArray) (m : Mk) : Bool := decide (m.t = s) && decide (m.st = 1)
def eff (s : ByteArray) (m : Mk) : Bool := decide (m.t = s) && !decide (m.st = 2)
def gFI (s : ByteArray) (m : Mk) : Int := if hit s m = true then max (amF m) 0 else 0
def gFO (s : ByteArray) (m : Mk) : Int := if hit s m = true then max (-amF m) 0 else 0
def gKI (s : ByteArray) (m : Mk) : Int := if hit s m = true then max (amK m) 0 else 0
def gKO (s : ByteArray) (m : Mk) : Int := if hit s m = true then max (-amK m) 0 else 0
def gNF (s : ByteArray) (m : Mk) : Int := if eff s m = true then amF m else 0
def gNK (s : ByteArray) (m : Mk) : Int := if eff s m = true then amK m else 0
def potsB (M : List Mk) (x : Acc) : Bool := decide (x.b = sm (gFI x.s) M) && decide (x.c = sm (gFO x.s) M) && decide (x.y = sm (gKI x.s) M) && decide (x.z = sm (gKO x.s) M)
def mayB (A : List Acc) (M : List Mk) : Bool := accsB A && mksB A M && A.all (potsB M)
structure May (A : List Acc) (M : List Mk) : Prop where
  la : A.length ≤ 12
  oa : ∀ x ∈ A, accOk x = true
  ua : upB (nm A) = true
  lm : M.length ≤ 500
  om : ∀ m ∈ M, mkOk A m = true
  um : upB (ky M) = true
  po : ∀ x ∈ A, potsB M x = true
theorem accs_iff (A : List Acc) : accsB A = true ↔ A.length ≤ 12 ∧ (∀ x ∈ A, accOk x = true) ∧ upB (nm A) = true := by
  unfold accsB; rw [Bool.and_eq_true, Bool.and_eq_true, decide_eq_true_eq, List.all_eq_true]
  constructor
  · rintro ⟨⟨h1, h2⟩, h3⟩; exact ⟨h1, h2, h3⟩
  · rintro ⟨h1, h2, h3⟩; exact ⟨⟨h1, h2⟩, h3⟩
theorem mks_iff (A : List Acc) (M : List Mk) : mksB A M = true ↔ M.length ≤ 500 ∧ (∀ m ∈ M, mkOk A m = true) ∧ upB (ky M) = true := by
  unfold mksB; rw [Bool.and_eq_true, Bool.and_eq_true, decide_eq_true_eq, List.all_eq_true]
  constructor
  · rintro ⟨⟨h1, h2⟩, h3⟩; exact ⟨h1, h2, h3⟩
  · rintro ⟨h1, h2, h3⟩; exact ⟨⟨h1, h2⟩, h3⟩
theorem may_iff (A : List Acc) (M : List Mk) : mayB A M = true ↔ May A M := by
  unfold mayB; rw [Bool.and_eq_true, Bool.and_eq_true, accs_iff, mks_iff, List.all_eq_true]
  constructor
  · rintro ⟨⟨⟨h1, h2, h3⟩, h4, h5, h6⟩, h7⟩; exact ⟨h1, h2, h3, h4, h5, h6, h7⟩
  · rintro ⟨h1, h2, h3, h4, h5, h6, h7⟩; exact ⟨⟨⟨h1, h2, h3⟩, h4, h5, h6⟩, h7⟩
theorem mk_iff (A : List Acc) (m : Mk) : mkOk A m = true ↔ (0 < m.key.size ∧ m.key.size ≤ 100) ∧ Act.actB m.k m.t m.n = true ∧ m.t ∈ nm A ∧ 1 ≤ m.st ∧ m.st ≤ 3 := by
  unfold mkOk keyB
  simp only [Bool.and_eq_true, decide_eq_true_eq, has_iff]
  constructor
  · rintro ⟨⟨⟨h1, h2⟩, h3⟩, h4, h5⟩; exact ⟨h1, h2, h3, h4, h5⟩
  · rintro ⟨h1, h2, h3, h4, h5⟩; exact ⟨⟨⟨h1, h2⟩, h3⟩, h4, h5⟩
theorem pots_iff (M : List Mk) (x : Acc) : potsB M x = true ↔ x.b = sm (gFI x.s) M ∧ x.c = sm (gFO x.s) M ∧ x.y = sm (gKI x.s) M ∧ x.z = sm (gKO x.s) M := by
  unfold potsB
  simp only [Bool.and_eq_true, decide_eq_true_eq]
  constructor
  · rintro ⟨⟨⟨h1, h2⟩, h3⟩, h4⟩; exact ⟨h1, h2, h3, h4⟩
  · rintro ⟨h1, h2, h3, h4⟩; exact ⟨⟨⟨h1, h2⟩, h3⟩, h4⟩
theorem am_rng {m : Mk} (h : Act.actB m.k m.t m.n = true) : (-1000000000000000 ≤ amF m ∧ amF m ≤ 1000000000000000) ∧ (-1000000000000000 ≤ amK m ∧ amK m ≤ 1000000000000000) := by
  obtain ⟨_, _, h1, h2⟩ := (Act.act_iff _ _ _).1 h
  unfold amF amK Act.dF Act.dK
  rw [if_pos h, if_pos h]
  obtain ⟨u1, u2⟩ := Act.way_unit m.k
  refine ⟨?_, ?_⟩
  · rcases u1 with e | e | e <;> rw [e] <;> omega
  · rcases u2 with e | e | e <;> rw [e] <;> omega
end Go.Proofs.Ytiakajheoajepaa.Led
