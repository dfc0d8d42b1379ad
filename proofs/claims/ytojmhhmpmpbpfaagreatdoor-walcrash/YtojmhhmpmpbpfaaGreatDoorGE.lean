/- Parts of these proofs, laid together. -/
import Derived.Test.YtojmhhmpmpbpfaaGreatDoorGA
import Derived.Test.YtojmhhmpmpbpfaaGreatDoorGC
import Derived.Test.YtojmhhmpmpbpfaaGreatDoorGD
namespace Go.Proofs.YtojmhhmpmpbpfaaGreatDoor.Dk

structure Fl where
  n : Int
  d : ByteArray
  y : Int
theorem Fl.ext' {f g : Fl} (h1 : f.n = g.n) (h2 : f.d = g.d) (h3 : f.y = g.y) : f = g := by
  cases f; cases g; simp_all
abbrev zf (n : Int) : Fl := ⟨n, ⟨#[]⟩, 0⟩
def has (L : List Fl) (n : Int) : Bool := L.any (fun f => decide (f.n = n))
def get (L : List Fl) (n : Int) : Fl := (L.find? (fun f => decide (f.n = n))).getD (zf 0)
def used (L : List Fl) : Nat := (L.map (fun f => f.d.size)).sum
def Up (L : List Fl) : Prop := L.Pairwise (fun f g => f.n < g.n)
def del (L : List Fl) (n : Int) : List Fl := L.filter (fun f => decide (f.n ≠ n))
def ins (f : Fl) : List Fl → List Fl
  | [] => [f]
  | g :: r => if f.n < g.n then f :: g :: r else if f.n = g.n then f :: r else g :: ins f r
def emp (f : Fl) : Bool := decide (f.d.size = 0) && decide (f.y = 0)
def put (f : Fl) (L : List Fl) : List Fl := if emp f then del L f.n else ins f L
/- what a file must be -/
structure Fo (f : Fl) : Prop where
  n0 : 0 ≤ f.n
  n1 : f.n ≤ 1000000
  d1 : 1 ≤ f.d.size
  y0 : 0 ≤ f.y
  y1 : f.y ≤ f.d.size
theorem Fo.emp {f : Fl} (h : Fo f) : emp f = false := by
  have h1 := h.d1
  have h2 : ¬ f.d.size = 0 := by omega
  simp only [Dk.emp, h2, decide_false, Bool.false_and]

theorem has_mem {L : List Fl} {n : Int} (h : has L n = true) : ∃ f ∈ L, f.n = n := by
  obtain ⟨f, h1, h2⟩ := List.any_eq_true.1 h
  exact ⟨f, h1, by simpa using h2⟩
theorem has_of {L : List Fl} {f : Fl} (h : f ∈ L) : has L f.n = true := List.any_eq_true.2 ⟨f, h, by simp⟩
theorem has_not {L : List Fl} {n : Int} (h : has L n = false) {f : Fl} (hf : f ∈ L) : f.n ≠ n := by
  rintro rfl
  rw [has_of hf] at h; cases h
theorem has_false {L : List Fl} {n : Int} (h : ∀ f ∈ L, f.n ≠ n) : has L n = false := by
  cases e : has L n with
  | false => rfl
  | true =>
    obtain ⟨f, h1, h2⟩ := has_mem e
    exact absurd h2 (h f h1)
theorem get_not {L : List Fl} {n : Int} (h : has L n = false) : get L n = zf 0 := by
  unfold get
  rw [List.find?_eq_none.2 (fun f hf => by simpa using has_not h hf)]
  rfl
theorem Up.inj {L : List Fl} (h : Up L) {f g : Fl} (hf : f ∈ L) (hg : g ∈ L) (e : f.n = g.n) : f = g := by
  induction L with
  | nil => cases hf
  | cons x r ih =>
    obtain ⟨h1, h2⟩ := List.pairwise_cons.1 h
    rcases List.mem_cons.1 hf with hf | hf
    · rcases List.mem_cons.1 hg with hg | hg
      · rw [hf, hg]
      · have := h1 g hg; rw [hf] at e; omega
    · rcases List.mem_cons.1 hg with hg | hg
      · have := h1 f hf; rw [hg] at e; omega
      · exact ih h2 hf hg
theorem get_of {L : List Fl} (h : Up L) {f : Fl} (hf : f ∈ L) : get L f.n = f := by
  unfold get
  cases e : L.find? (fun g => decide (g.n = f.n)) with
  | none => have := List.find?_eq_none.1 e f hf; simp at this
  | some g =>
    have h1 := List.mem_of_find?_eq_some e
    have h2 := List.find?_some e
    simp at h2
    exact h.inj h1 hf h2
theorem get_mem {L : List Fl} {n : Int} (h : has L n = true) : get L n ∈ L ∧ (get L n).n = n := by
  unfold get
  cases e : L.find? (fun g => decide (g.n = n)) with
  | none =>
    obtain ⟨f, h1, h2⟩ := has_mem h
    have := List.find?_eq_none.1 e f h1; simp [h2] at this
  | some g =>
    have h1 := List.mem_of_find?_eq_some e
    have h2 := List.find?_some e
    simp at h2
    exact ⟨h1, h2⟩

/- ins, del -/
theorem mem_ins {f g : Fl} {L : List Fl} (h : g ∈ ins f L) : g = f ∨ g ∈ L := by
  induction L with
  | nil => simp [ins] at h; exact Or.inl h
  | cons x r ih =>
    unfold ins at h
    split at h
    · rcases List.mem_cons.1 h with h | h
      · exact Or.inl h
      · exact Or.inr h
    · split at h
      · rcases List.mem_cons.1 h with h | h
        · exact Or.inl h
        · exact Or.inr (List.mem_cons_of_mem _ h)
      · rcases List.mem_cons.1 h with h | h
        · exact Or.inr (by rw [h]; exact List.mem_cons_self)
        · rcases ih h with h | h
          · exact Or.inl h
          · exact Or.inr (List.mem_cons_of_mem _ h)
theorem Up.ins {f : Fl} {L : List Fl} (h : Up L) : Up (ins f L) := by
  induction L with
  | nil => simp [Dk.ins, Up]
  | cons x r ih =>
    obtain ⟨h1, h2⟩ := List.pairwise_cons.1 h
    unfold Dk.ins
    split
    · rename_i c
      refine List.pairwise_cons.2 ⟨fun g hg => ?_, h⟩
      rcases List.mem_cons.1 hg with rfl | hg
      · exact c
      · have := h1 g hg; omega
    · split
      · rename_i c
        refine List.pairwise_cons.2 ⟨fun g hg => ?_, h2⟩
        have := h1 g hg; omega
      · refine List.pairwise_cons.2 ⟨fun g hg => ?_, ih h2⟩
        rcases mem_ins hg with rfl | hg
        · omega
        · exact h1 g hg
theorem Up.del {L : List Fl} (h : Up L) (n : Int) : Up (del L n) := h.filter _
theorem has_ins (f : Fl) (L : List Fl) (n : Int) : has (ins f L) n = (decide (f.n = n) || has L n) := by
  induction L with
  | nil => simp [ins, has]
  | cons x r ih =>
    unfold ins
    split
    · simp [has]
    · split
      · rename_i c
        simp only [has, List.any_cons]
        rw [← c]
        cases decide (f.n = n) <;> simp
      · have e : has (x :: ins f r) n = (decide (x.n = n) || has (ins f r) n) := by simp [has]
        rw [e, ih]
        simp only [has, List.any_cons]
        cases decide (f.n = n) <;> cases decide (x.n = n) <;> simp
theorem has_del (L : List Fl) (n k : Int) : has (del L n) k = (has L k && decide (k ≠ n)) := by
  induction L with
  | nil => simp [del, has]
  | cons x r ih =>
    have e : del (x :: r) n = if x.n ≠ n then x :: del r n else del r n := by
      unfold del; rw [List.filter_cons]; by_cases c : x.n = n <;> simp [c]
    have e2 : has (x :: r) k = (decide (x.n = k) || has r k) := by simp [has]
    rw [e, e2]
    by_cases c : x.n = n
    · rw [if_neg (by omega), ih]
      by_cases c2 : x.n = k
      · have : ¬ (k ≠ n) := by omega
        simp [this]
      · simp [c2]
    · rw [if_pos c]
      have e3 : has (x :: del r n) k = (decide (x.n = k) || has (del r n) k) := by simp [has]
      rw [e3, ih]
      by_cases c2 : x.n = k
      · have : k ≠ n := by omega
        simp [this, c2]
      · simp [c2]
theorem ins_len (f : Fl) (L : List Fl) (h : Up L) : (ins f L).length = if has L f.n then L.length else L.length + 1 := by
  induction L with
  | nil => simp [ins, has]
  | cons x r ih =>
    obtain ⟨h1, h2⟩ := List.pairwise_cons.1 h
    have e2 : has (x :: r) f.n = (decide (x.n = f.n) || has r f.n) := by simp [has]
    unfold ins
    rw [e2]
    split
    · rename_i c
      have : has r f.n = false := has_false (fun g hg => by have := h1 g hg; omega)
      have c2 : ¬ x.n = f.n := by omega
      simp [this, c2]
    · split
      · rename_i c
        simp [c]
      · have c2 : ¬ x.n = f.n := by omega
        simp only [List.length_cons, ih h2, c2, decide_false, Bool.false_or]
        split <;> rfl
theorem used_ins (f : Fl) (L : List Fl) (h : Up L) : used (ins f L) + (if has L f.n then (get L f.n).d.size else 0) = used L + f.d.size := by
  induction L with
  | nil => simp [ins, has, used]
  | cons x r ih =>
    obtain ⟨h1, h2⟩ := List.pairwise_cons.1 h
    have e2 : has (x :: r) f.n = (decide (x.n = f.n) || has r f.n) := by simp [has]
    have u2 : used (x :: r) = x.d.size + used r := by simp [used]
    unfold ins
    rw [e2]
    split
    · rename_i c
      have : has r f.n = false := has_false (fun g hg => by have := h1 g hg; omega)
      have c2 : ¬ x.n = f.n := by omega
      have u3 : used (f :: x :: r) = f.d.size + used (x :: r) := by simp [used]
      simp only [this, c2, decide_false, Bool.or_false, u3]
      simp
      omega
    · split
      · rename_i c
        have u3 : used (f :: r) = f.d.size + used r := by simp [used]
        have g3 : get (x :: r) f.n = x := by rw [c]; exact get_of h List.mem_cons_self
        rw [u3, g3, u2]
        simp [c]
        omega
      · have c2 : ¬ x.n = f.n := by omega
        have u3 : used (x :: ins f r) = x.d.size + used (ins f r) := by simp [used]
        have g3 : get (x :: r) f.n = get r f.n := by unfold get; rw [List.find?_cons_of_neg (by simpa using c2)]
        rw [u3, g3, u2]
        have := ih h2
        simp only [c2, decide_false, Bool.false_or]
        omega
theorem used_del {L : List Fl} (h : Up L) {n : Int} (hn : has L n = true) : used (del L n) + (get L n).d.size = used L := by
  induction L with
  | nil => simp [has] at hn
  | cons x r ih =>
    obtain ⟨h1, h2⟩ := List.pairwise_cons.1 h
    have e : del (x :: r) n = if x.n ≠ n then x :: del r n else del r n := by
      unfold del; rw [List.filter_cons]; by_cases c : x.n = n <;> simp [c]
    have u2 : used (x :: r) = x.d.size + used r := by simp [used]
    rw [e]
    by_cases c : x.n = n
    · have g3 : get (x :: r) n = x := by rw [← c]; exact get_of h List.mem_cons_self
      have d3 : del r n = r := by
        unfold del
        exact List.filter_eq_self.2 (fun g hg => by have := h1 g hg; simp; omega)
      rw [if_neg (by omega), g3, d3, u2]
      omega
    · have e2 : has (x :: r) n = (decide (x.n = n) || has r n) := by simp [has]
      rw [e2] at hn
      simp [c] at hn
      have u3 : used (x :: del r n) = x.d.size + used (del r n) := by simp [used]
      have g3 : get (x :: r) n = get r n := by unfold get; rw [List.find?_cons_of_neg (by simpa using c)]
      rw [if_pos c, u3, g3, u2]
      have := ih h2 hn
      omega
theorem get_ins (f : Fl) {L : List Fl} (h : Up L) : get (ins f L) f.n = f := get_of h.ins (by
  clear h
  induction L with
  | nil => simp [ins]
  | cons x r ih =>
    unfold ins
    split
    · exact List.mem_cons_self
    · split
      · exact List.mem_cons_self
      · exact List.mem_cons_of_mem _ ih)
theorem self_ins (f : Fl) (L : List Fl) : f ∈ ins f L := by
  induction L with
  | nil => simp [ins]
  | cons x r ih =>
    unfold ins
    split
    · exact List.mem_cons_self
    · split
      · exact List.mem_cons_self
      · exact List.mem_cons_of_mem _ ih
theorem mem_ins_of {f g : Fl} {L : List Fl} (h : g ∈ L) (hn : g.n ≠ f.n) : g ∈ ins f L := by
  induction L with
  | nil => cases h
  | cons x r ih =>
    unfold ins
    split
    · exact List.mem_cons_of_mem _ h
    · split
      · rename_i c
        rcases List.mem_cons.1 h with rfl | h
        · omega
        · exact List.mem_cons_of_mem _ h
      · rcases List.mem_cons.1 h with rfl | h
        · exact List.mem_cons_self
        · exact List.mem_cons_of_mem _ (ih h)
/- a file in its place -/
theorem ins_mid {f g : Fl} {A B : List Fl} (h : Up (A ++ g :: B)) (e : f.n = g.n) : ins f (A ++ g :: B) = A ++ f :: B := by
  induction A with
  | nil => simp [ins, e]
  | cons x r ih =>
    obtain ⟨h1, h2⟩ := List.pairwise_cons.1 (show Up (x :: (r ++ g :: B)) from h)
    have := h1 g (by simp)
    rw [List.cons_append, ins, if_neg (by omega), if_neg (by omega), ih h2]
    rfl
theorem del_mid {g : Fl} {A B : List Fl} (h : Up (A ++ g :: B)) {n : Int} (e : n = g.n) : del (A ++ g :: B) n = A ++ B := by
  subst e
  obtain ⟨h1, h2, h3⟩ := List.pairwise_append.1 h
  obtain ⟨h4, h5⟩ := List.pairwise_cons.1 h2
  unfold del
  rw [List.filter_append, List.filter_cons]
  have ea : A.filter (fun f => decide (f.n ≠ g.n)) = A := List.filter_eq_self.2 (fun x hx => by have := h3 x hx g (by simp); simp; omega)
  have eb : B.filter (fun f => decide (f.n ≠ g.n)) = B := List.filter_eq_self.2 (fun x hx => by have := h4 x hx; simp; omega)
  rw [ea, eb]
  simp
theorem ins_end {f : Fl} {A B : List Fl} (hA : ∀ x ∈ A, x.n < f.n) (hB : ∀ x ∈ B, f.n < x.n) : ins f (A ++ B) = A ++ f :: B := by
  induction A with
  | nil =>
    cases B with
    | nil => rfl
    | cons x r => have := hB x (by simp); simp [ins, this]
  | cons x r ih =>
    have := hA x (by simp)
    rw [List.cons_append, ins, if_neg (by omega), if_neg (by omega), ih (fun y hy => hA y (by simp [hy]))]
    rfl

/- the power goes -/
def cutF (k : Int) (f : Fl) : Fl := ⟨f.n, f.d.extract 0 (f.y + min (max k 0) ((f.d.size : Int) - f.y)).toNat, f.y + min (max k 0) ((f.d.size : Int) - f.y)⟩
def one (k : Int) (f : Fl) : List Fl := if (cutF k f).y = 0 then [] else [cutF k f]
def fallA (K : Nat → Int) : Nat → List Fl → List Fl
  | _, [] => []
  | i, f :: r => one (K i) f ++ fallA K (i + 1) r
def kf (l : List Int) (i : Nat) : Int := l.getD i 0
theorem cut_size {k : Int} {f : Fl} (h : Fo f) : ((cutF k f).d.size : Int) = (cutF k f).y := by
  have := h.y0; have := h.y1
  simp only [cutF, ByteArray.size_extract]
  omega
theorem cut_le {k : Int} {f : Fl} (h : Fo f) : (cutF k f).y ≤ f.d.size ∧ f.y ≤ (cutF k f).y := by
  have := h.y0; have := h.y1
  simp only [cutF]
  omega
theorem cut_fo {k : Int} {f : Fl} (h : Fo f) (hy : (cutF k f).y ≠ 0) : Fo (cutF k f) := by
  have h1 := cut_size (k := k) h
  have h2 := cut_le (k := k) h
  have := h.y0
  exact ⟨h.n0, h.n1, by omega, by omega, by omega⟩
theorem cut_emp {k : Int} {f : Fl} (h : Fo f) : emp (cutF k f) = decide ((cutF k f).y = 0) := by
  have h1 := cut_size (k := k) h
  unfold emp
  by_cases c : (cutF k f).y = 0
  · have c2 : (cutF k f).d.size = 0 := by omega
    simp only [c, c2, decide_true, Bool.and_true]
  · simp only [c, decide_false, Bool.and_false]
theorem one_mem {k : Int} {f g : Fl} (h : g ∈ one k f) : g = cutF k f ∧ (cutF k f).y ≠ 0 := by
  unfold one at h
  split at h
  · cases h
  · rename_i c; exact ⟨by simpa using h, c⟩
theorem fall_mem {K : Nat → Int} {i : Nat} {L : List Fl} {g : Fl} (h : g ∈ fallA K i L) : ∃ k, ∃ f ∈ L, g = cutF k f ∧ (cutF k f).y ≠ 0 := by
  induction L generalizing i with
  | nil => cases h
  | cons x r ih =>
    rcases List.mem_append.1 h with h | h
    · obtain ⟨h1, h2⟩ := one_mem h
      exact ⟨_, x, by simp, h1, h2⟩
    · obtain ⟨k, f, h1, h2⟩ := ih h
      exact ⟨k, f, by simp [h1], h2⟩
theorem fall_of {K : Nat → Int} {i : Nat} {L : List Fl} {f : Fl} (h : f ∈ L) : ∃ k, (cutF k f).y = 0 ∨ cutF k f ∈ fallA K i L := by
  induction L generalizing i with
  | nil => cases h
  | cons x r ih =>
    rcases List.mem_cons.1 h with rfl | h
    · refine ⟨K i, ?_⟩
      by_cases c : (cutF (K i) f).y = 0
      · exact Or.inl c
      · exact Or.inr (List.mem_append_left _ (by unfold one; rw [if_neg c]; simp))
    · obtain ⟨k, h1 | h1⟩ := ih (i := i + 1) h
      · exact ⟨k, Or.inl h1⟩
      · exact ⟨k, Or.inr (List.mem_append_right _ h1)⟩
theorem fall_snoc (K : Nat → Int) (i : Nat) (A : List Fl) (f : Fl) : fallA K i (A ++ [f]) = fallA K i A ++ one (K (i + A.length)) f := by
  induction A generalizing i with
  | nil => simp [fallA]
  | cons x r ih => simp only [List.cons_append, fallA, ih, List.append_assoc, List.length_cons]; rw [show i + 1 + r.length = i + (r.length + 1) by omega]
theorem fall_congr {K M : Nat → Int} {i : Nat} {L : List Fl} (h : ∀ j, j < i + L.length → K j = M j) : fallA K i L = fallA M i L := by
  induction L generalizing i with
  | nil => rfl
  | cons x r ih =>
    simp only [fallA]
    rw [h i (by simp), ih (fun j hj => h j (by simp; omega))]
theorem Up.fall {K : Nat → Int} {i : Nat} {L : List Fl} (h : Up L) : Up (fallA K i L) := by
  induction L generalizing i with
  | nil => exact List.Pairwise.nil
  | cons x r ih =>
    obtain ⟨h1, h2⟩ := List.pairwise_cons.1 h
    refine List.pairwise_append.2 ⟨by unfold one; split <;> simp, ih h2, fun a ha b hb => ?_⟩
    obtain ⟨rfl, _⟩ := one_mem ha
    obtain ⟨k, f, h3, rfl, _⟩ := fall_mem hb
    exact h1 f h3
theorem fall_len (K : Nat → Int) (i : Nat) (L : List Fl) : (fallA K i L).length ≤ L.length := by
  induction L generalizing i with
  | nil => simp [fallA]
  | cons x r ih =>
    have := ih (i + 1)
    have : (one (K i) x).length ≤ 1 := by unfold one; split <;> simp
    simp only [fallA, List.length_append, List.length_cons]
    omega
theorem fall_used (K : Nat → Int) (i : Nat) (L : List Fl) (h : ∀ f ∈ L, Fo f) : used (fallA K i L) ≤ used L := by
  induction L generalizing i with
  | nil => simp [fallA]
  | cons x r ih =>
    have h1 := ih (i + 1) (fun f hf => h f (by simp [hf]))
    have u2 : used (x :: r) = x.d.size + used r := by simp [used]
    have u3 : used (one (K i) x ++ fallA K (i + 1) r) = used (one (K i) x) + used (fallA K (i + 1) r) := by simp [used]
    have u4 : used (one (K i) x) ≤ x.d.size := by
      have c1 := cut_size (k := K i) (h x (by simp))
      have c2 := cut_le (k := K i) (h x (by simp))
      unfold one
      split
      · simp [used]
      · simp [used]; omega
    simp only [fallA]
    omega

/- a disk -/
structure St where
  L : List Fl
  room : Int
  dead : Bool
  left : Int
  keep : List Int
structure Ok (s : St) : Prop where
  up : Up s.L
  fo : ∀ f ∈ s.L, Fo f
  len : s.L.length ≤ 8
  fits : (used s.L : Int) ≤ s.room
  r1 : s.room ≤ 200000
  l0 : 0 ≤ s.left
  l1 : s.left ≤ 9223372036854775807
theorem Ok.r0 {s : St} (h : Ok s) : 0 ≤ s.room := by have := h.fits; omega
def new (room : Int) (L : List Fl) : St := ⟨L, room, false, 0, []⟩
def fall (s : St) (keep : List Int) : St := { s with L := fallA (kf keep) 0 s.L, dead := true, left := 0 }
def cntE (s : St) : Int := if s.left = 0 then 0 else if 0 < s.left - 1 then 0 else 150
def cntS (s : St) : St := if s.left = 0 then s else if 0 < s.left - 1 then { s with left := s.left - 1 } else fall s s.keep
def ext (L : List Fl) (n : Int) (d : ByteArray) : Fl := ⟨n, (get L n).d ++ d, (get L n).y⟩
def appE (s : St) (n : Int) (d : ByteArray) : Int :=
  if s.dead then 150 else if n < 0 ∨ 1000000 < n then 2 else if (has s.L n = false ∧ 8 ≤ s.L.length) ∨ s.room < (used s.L : Int) + d.size then 151
  else if d.size = 0 then 0 else cntE s
def appS (s : St) (n : Int) (d : ByteArray) : St :=
  if s.dead then s else if n < 0 ∨ 1000000 < n then s else if (has s.L n = false ∧ 8 ≤ s.L.length) ∨ s.room < (used s.L : Int) + d.size then s
  else if d.size = 0 then s else cntS { s with L := ins (ext s.L n d) s.L }
def fst (f : Fl) (k : Int) : Fl := ⟨f.n, f.d.extract 0 k.toNat, k⟩
def chS (s : St) (f : Fl) : St := if cntE s = 0 then { cntS s with L := put f s.L } else cntS s
/- what a step asks for: 1 Sync, 2 Cut, 3 Remove -/
def siz (q : Int) (f : Fl) (k : Int) : Int := if q = 1 then f.d.size else if q = 2 then k else 0
def stpE (s : St) (q n k : Int) : Int :=
  if s.dead then 150 else if has s.L n = false then 152 else if q = 2 ∧ (k < 1 ∨ ((get s.L n).d.size : Int) < k) then 2 else cntE s
def stpS (s : St) (q n k : Int) : St :=
  if s.dead then s else if has s.L n = false then s else if q = 2 ∧ (k < 1 ∨ ((get s.L n).d.size : Int) < k) then s else chS s (fst (get s.L n) (siz q (get s.L n) k))
def armE (s : St) (n : Int) : Int := if s.dead then 150 else if n < 0 then 2 else 0
def armS (s : St) (n : Int) (keep : List Int) : St := if s.dead then s else if n < 0 then s else { s with left := n, keep := keep }
def craE (s : St) : Int := if s.dead then 150 else 0
def craS (s : St) (keep : List Int) : St := if s.dead then s else fall s keep
def booS (s : St) : St := { s with dead := false }
theorem Ok.fall {s : St} (h : Ok s) (keep : List Int) : Ok (fall s keep) := by
  have h1 := fall_len (kf keep) 0 s.L
  have h2 := fall_used (kf keep) 0 s.L h.fo
  have := h.len; have := h.fits
  refine ⟨h.up.fall, fun f hf => ?_, by simp only [Dk.fall]; omega, by simp only [Dk.fall]; omega, h.r1, by simp [Dk.fall], by simp [Dk.fall]⟩
  obtain ⟨k, g, h3, rfl, h4⟩ := fall_mem hf
  exact cut_fo (h.fo g h3) h4
theorem Ok.cnt {s : St} (h : Ok s) : Ok (cntS s) := by
  unfold cntS
  split
  · exact h
  · split
    · have := h.l1
      exact ⟨h.up, h.fo, h.len, h.fits, h.r1, by simp only; omega, by simp only; omega⟩
    · exact h.fall _
theorem Ok.ext {s : St} (h : Ok s) {n : Int} {d : ByteArray} (h1 : ¬ (n < 0 ∨ 1000000 < n)) (h2 : ¬ ((has s.L n = false ∧ 8 ≤ s.L.length) ∨ s.room < (used s.L : Int) + d.size)) (h3 : ¬ d.size = 0) :
    Fo (Dk.ext s.L n d) ∧ Ok { s with L := ins (Dk.ext s.L n d) s.L } := by
  have hy : 0 ≤ (get s.L n).y ∧ (get s.L n).y ≤ (get s.L n).d.size := by
    cases e : has s.L n with
    | true => obtain ⟨g1, g2⟩ := get_mem e; have := h.fo _ g1; exact ⟨this.y0, this.y1⟩
    | false => rw [get_not e]; exact ⟨Int.le_refl _, by simp⟩
  have hsz : (Dk.ext s.L n d).d.size = (get s.L n).d.size + d.size := by simp [Dk.ext]
  have hF : Fo (Dk.ext s.L n d) := by
    refine ⟨by simp only [Dk.ext]; omega, by simp only [Dk.ext]; omega, by omega, hy.1, ?_⟩
    rw [hsz]; simp only [Dk.ext]; omega
  refine ⟨hF, ⟨h.up.ins, fun f hf => ?_, ?_, ?_, h.r1, h.l0, h.l1⟩⟩
  · rcases mem_ins hf with rfl | hf
    · exact hF
    · exact h.fo f hf
  · show (ins (Dk.ext s.L n d) s.L).length ≤ 8
    rw [ins_len _ _ h.up]
    have := h.len
    cases e : has s.L n with
    | true => rw [show (Dk.ext s.L n d).n = n from rfl, e]; simpa using this
    | false =>
      have c : ¬ 8 ≤ s.L.length := fun c => h2 (Or.inl ⟨e, c⟩)
      rw [show (Dk.ext s.L n d).n = n from rfl, e]; simp; omega
  · show (used (ins (Dk.ext s.L n d) s.L) : Int) ≤ s.room
    have h5 := used_ins (Dk.ext s.L n d) s.L h.up
    rw [show (Dk.ext s.L n d).n = n from rfl, hsz] at h5
    cases e : has s.L n with
    | true => rw [e] at h5; simp at h5; omega
    | false => rw [e] at h5; simp [get_not e, show (⟨#[]⟩ : ByteArray).size = 0 from rfl] at h5; omega
theorem Ok.app {s : St} (h : Ok s) (n : Int) (d : ByteArray) : Ok (appS s n d) := by
  unfold appS
  split
  · exact h
  · split
    · exact h
    · split
      · exact h
      · split
        · exact h
        · exact (h.ext (by assumption) (by assumption) (by assumption)).2.cnt
theorem fst_emp {f : Fl} {k : Int} (h : Fo f) (h0 : 0 ≤ k) (h1 : k ≤ f.d.size) : emp (fst f k) = decide (k = 0) ∧ (k ≠ 0 → Fo (fst f k)) := by
  have : ((f.d.extract 0 k.toNat).size : Int) = k := by simp; omega
  constructor
  · unfold emp fst
    by_cases c : k = 0
    · simp [c]
    · simp only [c, decide_false, Bool.and_false]
  · intro hk
    exact ⟨h.n0, h.n1, by simp only [fst]; omega, h0, by simp only [fst]; omega⟩
theorem Ok.put {s : St} (h : Ok s) {f : Fl} {k : Int} (hf : f ∈ s.L) (h0 : 0 ≤ k) (h1 : k ≤ f.d.size) : Ok { s with L := put (fst f k) s.L } := by
  obtain ⟨e1, e2⟩ := fst_emp (h.fo f hf) h0 h1
  have hh : has s.L f.n = true := has_of hf
  have hg : get s.L f.n = f := get_of h.up hf
  have := h.len
  have := h.fits
  unfold Dk.put
  by_cases c : k = 0
  · rw [e1, if_pos (by simpa using c)]
    have h5 := used_del h.up hh
    refine ⟨h.up.del _, fun g hg => h.fo g (List.mem_filter.1 hg).1, ?_, ?_, h.r1, h.l0, h.l1⟩
    · exact Nat.le_trans (List.length_filter_le _ _) h.len
    · show (used (del s.L f.n) : Int) ≤ s.room
      omega
  · rw [e1, if_neg (by simpa using c)]
    have h5 := used_ins (fst f k) s.L h.up
    rw [show (fst f k).n = f.n from rfl, hh, hg] at h5
    have h6 : ((fst f k).d.size : Int) = k := by simp [fst]; omega
    simp at h5
    refine ⟨h.up.ins, fun g hg => ?_, ?_, ?_, h.r1, h.l0, h.l1⟩
    · rcases mem_ins hg with rfl | hg
      · exact e2 c
      · exact h.fo g hg
    · show (ins (fst f k) s.L).length ≤ 8
      rw [ins_len _ _ h.up, show (fst f k).n = f.n from rfl, hh]
      simpa using h.len
    · show (used (ins (fst f k) s.L) : Int) ≤ s.room
      omega
theorem siz_in {q k : Int} {f : Fl} (h : ¬ (q = 2 ∧ (k < 1 ∨ (f.d.size : Int) < k))) : 0 ≤ siz q f k ∧ siz q f k ≤ f.d.size := by
  unfold siz
  split
  · omega
  · split
    · omega
    · omega
theorem Ok.ch {s : St} (h : Ok s) {f : Fl} {k : Int} (hf : f ∈ s.L) (h0 : 0 ≤ k) (h1 : k ≤ f.d.size) : Ok (chS s (fst f k)) := by
  unfold chS
  split
  · rename_i c
    have h2 := h.cnt
    have e : (cntS s).L = s.L := by
      unfold cntE at c
      unfold cntS
      split
      · rfl
      · rename_i c1
        rw [if_neg c1] at c
        split
        · rfl
        · rename_i c2; rw [if_neg c2] at c; cases c
    rw [← e] at hf ⊢
    exact h2.put hf h0 h1
  · exact h.cnt
theorem Ok.stp {s : St} (h : Ok s) (q n k : Int) : Ok (stpS s q n k) := by
  unfold stpS
  split
  · exact h
  · split
    · exact h
    · rename_i c
      split
      · exact h
      · rename_i c2
        have hh : has s.L n = true := by cases e : has s.L n with | true => rfl | false => exact absurd e c
        obtain ⟨h1, h2⟩ := siz_in c2
        exact h.ch (get_mem hh).1 h1 h2
theorem Ok.arm {s : St} (h : Ok s) {n : Int} (hn : n ≤ 9223372036854775807) (keep : List Int) : Ok (armS s n keep) := by
  unfold armS
  split
  · exact h
  · split
    · exact h
    · exact ⟨h.up, h.fo, h.len, h.fits, h.r1, by simp only; omega, hn⟩
theorem Ok.cra {s : St} (h : Ok s) (keep : List Int) : Ok (craS s keep) := by
  unfold craS
  split
  · exact h
  · exact h.fall _
theorem Ok.boo {s : St} (h : Ok s) : Ok (booS s) := ⟨h.up, h.fo, h.len, h.fits, h.r1, h.l0, h.l1⟩
theorem Ok.new {room : Int} (h0 : 0 ≤ room) (h1 : room ≤ 200000) : Ok (Dk.new room []) :=
  ⟨List.Pairwise.nil, fun f hf => by (cases hf), by simp [Dk.new], by simpa [Dk.new, used] using h0, h1, Int.le_refl _, by simp [Dk.new]⟩
end Go.Proofs.YtojmhhmpmpbpfaaGreatDoor.Dk
namespace Go.Proofs.YtojmhhmpmpbpfaaGreatDoor
open Go.RowKit

set_option maxHeartbeats 400000 in
set_option maxRecDepth 100000 in
theorem text_any (s : ByteArray) (w : World) (hs : s.size ≤ 140737488355328) :
    Calls Tryz.prog 93 #[.string s] w fun e w' => e = .returned (.string ⟨(Pk.text s.data.toList).toArray⟩) ∧ Gr w w' := by
  have hsz : s.data.toList.length = s.size := by simp
  have hl := Pk.num_len s.size
  have hadd := add_lists (Pk.num s.size) s.data.toList (by omega)
  rw [mk_data] at hadd
  have he : Pk.text s.data.toList = Pk.num s.size ++ s.data.toList := by rw [Pk.text, hsz]
  rw [he]
  have HN : Hid (∀ w : World, Calls Tryz.prog 107 #[.int .u64 s.size] w fun e w' => e = .returned (.string ⟨(Pk.num s.size).toArray⟩) ∧ Gr w w') := fun w => number_any s.size w (by omega)
  generalize Pk.num s.size = t at *
  clear he hsz hl
  go_enter Tryz.func93, Tryz.ntmps93
  go_wp2_with fail
  refine (HN.out _).mono ?_
  rintro e w1 ⟨rfl, hg1⟩
  go_wp2
  go_ret
  exact ⟨rfl, (by repeat (first | exact Gr.refl _ | refine Gr.alloc ?_ | refine Gr.drew ?_ | refine Gr.trans ?_ (by assumption)))⟩
end Go.Proofs.YtojmhhmpmpbpfaaGreatDoor
namespace Go.Proofs.YtojmhhmpmpbpfaaGreatDoor
open Go.RowKit

set_option maxHeartbeats 400000 in
set_option maxRecDepth 100000 in
theorem eight_any (n : Nat) (w : World) (hn : n < 18446744073709551616) :
    Calls Tryz.prog 86 #[.int .u64 n] w fun e w' => e = .returned (.string ⟨(Sl.eight n).toArray⟩) ∧ Gr w w' := by
  obtain ⟨i0, hi, hz0, hz1, hz2⟩ := info_parts info5
  have hcv := fun v' (w1 : World) (h : w1.ownsRow w.heap.size 5 1 v' 8 (Lib.byteCells (Sl.eight n))) => own_string (l := Sl.eight n) (w := w1) (v := v') (n := 8) (base := w.heap.size) h (by intro e; have := Sl.eight_len n; rw [e] at this; cases this)
  have HC : Hid (∀ v' (w1 : World), w1.ownsRow w.heap.size 5 1 v' 8 (Lib.byteCells (Sl.eight n)) → (convert 123 9 v').run Tryz.prog w1 = .ok (.string ⟨(Sl.eight n).toArray⟩) w1) := hcv
  clear hcv
  go_enter Tryz.func86, Tryz.ntmps86
  go_wp2
  go_loopw [0, 3, 4] (fun m v i wr => ∃ k : Nat, k ≤ 8 ∧ i = .int .i64 k ∧ m = .int .u64 (n / 256 ^ k : Nat) ∧ wr.ownsRow w.heap.size 5 1 v k (Lib.byteCells (Sl.eightF k n)) ∧ Below w.heap.size w wr)
    (fun _ _ i _ => 8 - (intOf i).toNat)
  case atStart => exact ⟨0, by omega, rfl, by simp, World.ownsRow_nil _ _ _ _, Below.refl _ _⟩
  case round =>
    obtain ⟨k, hk, rfl, rfl, hown, hb⟩ := hrel
    have hbs := hb.size
    by_cases hlt : k < 8
    · have hm1 : k + 1 ≤ maxLen := by unfold maxLen; omega
      have hx : n / 256 ^ k < 18446744073709551616 := Nat.lt_of_le_of_lt (Nat.div_le_self _ _) hn
      have HE : Hid (n / 256 ^ (k + 1) = n / 256 ^ k / 256) := by show _ = _; rw [Nat.div_div_eq_div_mul, Nat.pow_succ]
      have HS := Sl.eightF_snoc k n
      have HS2 : Hid (Lib.byteCells (Sl.eightF (k + 1) n) = Lib.byteCells (Sl.eightF k n) ++ [.int .u8 ((n / 256 ^ k : Nat) % 256 : Int)]) := by
        show _ = _
        rw [HS, byteCells_snoc]
        generalize n / 256 ^ k = m
        simp
      clear HS
      generalize n / 256 ^ k = x at *
      go_wp2_with (first
        | (at_builtin; refine wpList_append_own _ rfl _ _ 123 rfl w.heap.size 5 i0 (.int .u8 0) 1 1 Tryz.underlying123 hi hz0 hz1 hz2 rfl (by decide) _ _ _ rfl (hown.alloc _) ⟨wr.heap.size, 0, none⟩ 1 1 [.int .u8 ((x : Int) % 256)] rfl rfl (cell_one_new _ _ _) (by intro u hu; simp at hu; subst hu; rfl) hm1 (by omega) (by simp; omega) ?_)
        | fail)
      intro v' w1 hown' hgrow _
      go_wp2
      go_roundw
      case rel =>
        refine ⟨k + 1, by omega, by go_num, by rw [HE.out]; go_num, by rw [HS2.out]; exact hown', (hb.alloc hbs _).grown hgrow (by simp; omega) (fun k hk => (hown.lt k hk).1)⟩
      case measure => simp [intOf]; omega
    · have hk8 : k = 8 := by omega
      subst hk8
      have hc1 := HC.out _ wr hown
      clear HC
      go_wp2
      go_ret
      exact ⟨rfl, ⟨hb⟩⟩
end Go.Proofs.YtojmhhmpmpbpfaaGreatDoor
