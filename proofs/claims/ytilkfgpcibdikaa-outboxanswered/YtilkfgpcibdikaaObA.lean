
/- outbox: within, isTime, same, has: is a note among items? -/
import Derived.Test.YtilkfgpcibdikaaObM
import Derived.Test.YtilkfgpcibdikaaCmpQ
namespace Go.Proofs.Ytilkfgpcibdikaa
open Go.RowKit

theorem tx_eq (s t : ByteArray) : (s.toList == t.toList) = decide (s = t) := by
  rw [ByteArray.toList_eq, ByteArray.toList_eq]
  by_cases h : s = t
  · subst h; simp
  · rw [decide_eq_false h, beq_eq_false_iff_ne]
    intro e
    exact h (by cases s; cases t; simp at e; subst e; rfl)
set_option maxHeartbeats 400000 in
theorem oWithin_any (n l h : Int) (w : World) : Calls Try.prog 24 #[.int .i64 n, .int .i64 l, .int .i64 h] w fun e w' => e = .returned (.bool (Nt.inB n l h)) ∧ w' = w := by
  unfold Nt.inB
  by_cases a : l ≤ n
  · rw [decide_eq_true a, Bool.true_and]
    go_enter Try.func24, Try.ntmps24
    go_wp2
    go_ret
    exact ⟨rfl, rfl⟩
  · rw [decide_eq_false a, Bool.false_and]
    go_enter Try.func24, Try.ntmps24
    go_wp2
    go_ret
    exact ⟨rfl, rfl⟩
theorem tm_in (n : Int) : Nt.inB n 0 1000000000 = Ox.tmB n := by unfold Nt.inB Ox.tmB; rw [Bool.eq_iff_iff]; simp
set_option maxHeartbeats 400000 in
theorem isTime_any (n : Int) (w : World) : Calls Try.prog 25 #[.int .i64 n] w fun e w' => e = .returned (.bool (Ox.tmB n)) ∧ w' = w := by
  have HW : Hid (∀ w', Calls Try.prog 24 #[.int .i64 n, .int .i64 0, .int .i64 1000000000] w' fun e w2 => e = .returned (.bool (Ox.tmB n)) ∧ w2 = w') := fun w' => by rw [← tm_in]; exact oWithin_any n 0 1000000000 w'
  generalize Ox.tmB n = b at *
  go_enter Try.func25, Try.ntmps25
  go_wp2_with fail
  refine (HW.out _).mono ?_
  rintro e1 w1 ⟨rfl, hw1⟩; obtain rfl := hw1.symm
  go_wp2
  go_ret
  exact ⟨rfl, rfl⟩

/- are two notes the same? -/
theorem same_parts (k r n : Int) (L : List (Int × Int)) (d : ByteArray) (y k2 r2 n2 : Int) (M : List (Int × Int)) (d2 : ByteArray) (y2 : Int) (c : Bool) (hc : c = decide (r = r2 ∧ n = n2 ∧ L = M)) :
    decide (pk ⟨k, r, n, L, d, y⟩ = pk ⟨k2, r2, n2, M, d2, y2⟩) = ((k == k2) && c && (d.toList == d2.toList) && (y == y2)) := by
  rw [tx_eq, hc, Bool.eq_iff_iff]
  simp only [pk, Prod.mk.injEq, decide_eq_true_eq, Bool.and_eq_true, beq_iff_eq]
  constructor
  · rintro ⟨⟨h1, h2, h3⟩, h4, h5, h6⟩; exact ⟨⟨⟨h1, h2, h3, h4⟩, h5⟩, h6⟩
  · rintro ⟨⟨⟨h1, h2, h3, h4⟩, h5⟩, h6⟩; exact ⟨⟨h1, h2, h3⟩, h4, h5, h6⟩
set_option maxHeartbeats 2000000 in
set_option maxRecDepth 100000 in
theorem oSame_any (m m2 : Mn) (w : World) (h : MnAt w m) (h2 : MnAt w m2) :
    Calls Try.prog 47 #[m.v, m2.v] w fun e w' => e = .returned (.bool (decide (pk m.x = pk m2.x))) ∧ Gr w w' := by
  obtain ⟨⟨k, r, n, L, d, y⟩, ad, cap⟩ := m
  obtain ⟨⟨k2, r2, n2, M, d2, y2⟩, ad2, cap2⟩ := m2
  have HC : Hid (∀ w', Gr w w' → Calls Try.prog 57 #[.agg #[.int .i64 r, .int .i64 n, .slice ad L.length cap], .agg #[.int .i64 r2, .int .i64 n2, .slice ad2 M.length cap2]] w' fun e w2 => e = .returned (.int .i64 (Idn.cmpE r n L r2 n2 M)) ∧ Gr w' w2) := fun w' g => cmp_any r n L ad cap r2 n2 M ad2 cap2 w' (h.hp.gr g) (h2.hp.gr g) h.hl h2.hl
  have hz := Idn.cmpE_zero r n L r2 n2 M
  have HE := Lib.hid (same_parts k r n L d y k2 r2 n2 M d2 y2 (Idn.cmpE r n L r2 n2 M == 0) (by rw [Bool.eq_iff_iff, decide_eq_true_iff, beq_iff_eq, hz]))
  generalize Idn.cmpE r n L r2 n2 M = c at *
  clear h h2 hz
  dsimp only [Mn.v] at *
  generalize L.length = ll at *
  generalize M.length = ml at *
  generalize decide (pk ⟨k, r, n, L, d, y⟩ = pk ⟨k2, r2, n2, M, d2, y2⟩) = R at *
  cases hk : (k == k2) with
  | false =>
    rw [hk] at HE
    go_enter Try.func47, Try.ntmps47
    go_wp2
    go_ret
    exact ⟨by rw [HE.out]; rfl, (by repeat (first | exact Gr.refl _ | refine Gr.alloc ?_ | refine Gr.drew ?_ | refine Gr.trans ?_ (by assumption)))⟩
  | true =>
    rw [hk] at HE
    go_enter Try.func47, Try.ntmps47
    go_wp2_with fail
    refine (HC.out _ ?_).mono ?_
    · exact (by repeat (first | exact Gr.refl _ | refine Gr.alloc ?_ | refine Gr.drew ?_ | refine Gr.trans ?_ (by assumption)))
    rintro e1 w1 ⟨rfl, hg1⟩
    have B1 := ((Cs.new w [.int .i64 k, .int .i64 r, .int .i64 n, .slice ad ll cap, .string d, .int .i64 y] 37 _ rfl).alloc (o := .cells #[.int .i64 k2, .int .i64 r2, .int .i64 n2, .slice ad2 ml cap2, .string d2, .int .i64 y2] 37)).gr hg1
    have D1 := (Cs.new (w.alloc (.cells #[.int .i64 k, .int .i64 r, .int .i64 n, .slice ad ll cap, .string d, .int .i64 y] 37)) [.int .i64 k2, .int .i64 r2, .int .i64 n2, .slice ad2 ml cap2, .string d2, .int .i64 y2] 37 (w.heap.size + 1) (by simp)).gr hg1
    have c4 := B1.at_ 4 _ rfl
    have c5 := B1.at_ 5 _ rfl
    have clt := B1.lt
    have d4 := D1.at_ 4 _ rfl
    have d5 := D1.at_ 5 _ rfl
    have dlt := D1.lt
    cases hc : (c == 0) with
    | false =>
      rw [hc] at HE
      go_wp2
      go_ret
      exact ⟨by rw [HE.out]; rfl, (by repeat (first | exact Gr.refl _ | refine Gr.alloc ?_ | refine Gr.drew ?_ | refine Gr.trans ?_ (by assumption)))⟩
    | true =>
      rw [hc] at HE
      cases hd : (d.toList == d2.toList) with
      | false =>
        rw [hd] at HE
        go_wp2
        go_ret
        exact ⟨by rw [HE.out]; rfl, (by repeat (first | exact Gr.refl _ | refine Gr.alloc ?_ | refine Gr.drew ?_ | refine Gr.trans ?_ (by assumption)))⟩
      | true =>
        rw [hd] at HE
        go_wp2
        go_ret
        exact ⟨by rw [HE.out]; rfl, (by repeat (first | exact Gr.refl _ | refine Gr.alloc ?_ | refine Gr.drew ?_ | refine Gr.trans ?_ (by assumption)))⟩

/- the closure of has: a box with the note that is asked for -/
set_option maxHeartbeats 2000000 in
set_option maxRecDepth 100000 in
theorem hasC_any (x : Mi) (m : Mn) (g : Nat) (w : World) (hx : MnAt w x.m) (hm : MnAt w m) (hb : Cs w g (nC m)) :
    Calls Try.prog 46 #[x.v, .pointer (some ⟨g, 0, none⟩)] w fun e w' => e = .returned (.bool (decide (pk x.m.x = pk m.x))) ∧ Gr w w' := by
  have HS : Hid (∀ w', Gr w w' → Calls Try.prog 47 #[x.m.v, m.v] w' fun e w2 => e = .returned (.bool (decide (pk x.m.x = pk m.x))) ∧ Gr w' w2) := fun w' g => oSame_any x.m m w' (hx.gr g) (hm.gr g)
  generalize decide (pk x.m.x = pk m.x) = R at *
  obtain ⟨q, dd, s, ⟨⟨k, r, n, L, d, y⟩, ad, cap⟩⟩ := x
  obtain ⟨⟨k2, r2, n2, M, d2, y2⟩, ad2, cap2⟩ := m
  have c0 := hb.at_ 0 _ rfl
  have c1 := hb.at_ 1 _ rfl
  have c2 := hb.at_ 2 _ rfl
  have c3 := hb.at_ 3 _ rfl
  have c4 := hb.at_ 4 _ rfl
  have c5 := hb.at_ 5 _ rfl
  have clt := hb.lt
  clear hb hx hm
  dsimp only [Mn.v, Mi.v] at *
  generalize L.length = ll at *
  generalize M.length = ml at *
  go_enter Try.func46, Try.ntmps46
  go_wp2_with fail
  refine (HS.out _ ?_).mono ?_
  · exact (by repeat (first | exact Gr.refl _ | refine Gr.alloc ?_ | refine Gr.drew ?_ | refine Gr.trans ?_ (by assumption)))
  rintro e1 w1 ⟨rfl, hg1⟩
  go_wp2
  go_ret
  exact ⟨rfl, (by repeat (first | exact Gr.refl _ | refine Gr.alloc ?_ | refine Gr.drew ?_ | refine Gr.trans ?_ (by assumption)))⟩

/- where the first such item is -/
def ixI (D : List Mi) (p : Nx) : Nat → Int
  | 0 => -1
  | n + 1 => if h : D.length - (n + 1) < D.length then (if pk D[D.length - (n + 1)].m.x = p then ((D.length - (n + 1) : Nat) : Int) else ixI D p n) else -1
theorem among_its (D : List Mi) (p : Nx) : Ox.among (its D) p = true ↔ ∃ (j : Nat) (h : j < D.length), pk D[j].m.x = p := by
  rw [Ox.among_iff]
  constructor
  · rintro ⟨x, hx, e⟩
    obtain ⟨y, hy, rfl⟩ := List.mem_map.1 hx
    obtain ⟨j, hj, rfl⟩ := List.getElem_of_mem hy
    exact ⟨j, hj, e⟩
  · rintro ⟨j, hj, e⟩
    exact ⟨D[j].it, List.mem_map.2 ⟨_, List.getElem_mem hj, rfl⟩, e⟩
theorem among_no {D : List Mi} {p : Nx} (h : ∀ (j : Nat) (hj : j < D.length), pk D[j].m.x ≠ p) : Ox.among (its D) p = false := by
  cases e : Ox.among (its D) p with
  | false => rfl
  | true =>
    obtain ⟨j, hj, e2⟩ := (among_its D p).1 e
    exact absurd e2 (h j hj)
set_option maxHeartbeats 4000000 in
set_option maxRecDepth 100000 in
theorem indexFunc_any (D : List Mi) (m : Mn) (ad : Option Addr) (cap g : Nat) (w : World) (hD : ItsAt w ad D) (hn : D.length ≤ 9223372036854775807) (hm : MnAt w m) (hb : Cs w g (nC m)) :
    Calls Try.prog 56 #[.slice ad D.length cap, .func (.func 46) #[] #[.pointer (some ⟨g, 0, none⟩)]] w fun e w' => ∃ i : Int, e = .returned (.int .i64 i) ∧ decide (0 ≤ i) = Ox.among (its D) (pk m.x) ∧ Gr w w' := by
  have HC : Hid (∀ x ∈ D, ∀ w', Gr w w' → Calls Try.prog 46 #[x.v, .pointer (some ⟨g, 0, none⟩)] w' fun e w2 => e = .returned (.bool (decide (pk x.m.x = pk m.x))) ∧ Gr w' w2) := fun x hx w' gr => hasC_any x m g w' ((hD.nt x hx).gr gr) (hm.gr gr) (hb.gr gr)
  have HD := Lib.hid hD.row
  have HA : Hid (∀ (j : Nat) (hj : j < D.length), pk D[j].m.x = pk m.x → Ox.among (its D) (pk m.x) = true) := fun j hj e => (among_its D _).2 ⟨j, hj, e⟩
  have HN : Hid ((∀ (j : Nat) (hj : j < D.length), pk D[j].m.x ≠ pk m.x) → Ox.among (its D) (pk m.x) = false) := among_no
  generalize Ox.among (its D) (pk m.x) = R at *
  generalize pk m.x = p at *
  clear hD hm hb
  go_enter Try.func56, Try.ntmps56
  go_wp2
  go_loopw [8] (fun s8 wr => ∃ j : Nat, s8 = .int .i64 j ∧ j ≤ D.length ∧ (∀ (i : Nat) (hi : i < D.length), i < j → pk D[i].m.x ≠ p) ∧ Gr w wr) (fun s8 _ => D.length - (intOf s8).toNat)
  case atStart => exact ⟨0, rfl, Nat.zero_le _, fun i _ h => absurd h (Nat.not_lt_zero _), Gr.refl _⟩
  case round =>
    obtain ⟨j, rfl, hj, hno, hg⟩ := hrel
    have HNO := Lib.hid hno
    have HG := Lib.hid hg
    clear hno
    by_cases hlt : j < D.length
    · obtain ⟨b, off, rfl, hbl, d0, d1, d2, d3, d4, d5, d6, d7, d8⟩ := ItsRow.at HD.out j hlt
      have d0 := hg.keep d0
      have d1 := hg.keep d1
      have d2 := hg.keep d2
      have d3 := hg.keep d3
      have d4 := hg.keep d4
      have d5 := hg.keep d5
      have d6 := hg.keep d6
      have d7 := hg.keep d7
      have d8 := hg.keep d8
      have hbw : b < wr.heap.size := Nat.lt_of_lt_of_le hbl hg.size
      have hji : (j : Int) < (D.length : Int) := by omega
      have HX := Lib.hid (HC.out D[j] (List.getElem_mem hlt))
      have HY : Hid (pk D[j].m.x = p → R = true) := HA.out j hlt
      have HZ : Hid (¬ pk D[j].m.x = p → ∀ (i : Nat) (hi : i < D.length), i < j + 1 → pk D[i].m.x ≠ p) := by
        intro h i hi hij
        by_cases e : i = j
        · subst e; exact h
        · exact HNO.out i hi (by omega)
      clear hg
      generalize D[j] = x at *
      by_cases hq : pk x.m.x = p
      · rw [decide_eq_true hq] at HX
        have HR := Lib.hid (HY.out hq)
        clear HY HZ hq
        obtain ⟨q, dd, s, ⟨⟨k, r, n, L, d, y⟩, ad, cap⟩⟩ := x
        dsimp only [Mn.v, Mi.v] at *
        go_wp2_with fail
        refine (HX.out _ HG.out).mono ?_
        rintro e1 w1 ⟨rfl, hg1⟩
        have HG1 := Lib.hid (HG.out.trans hg1)
        clear d0 d1 d2 d3 d4 d5 d6 d7 d8
        go_wp2
        go_ret
        exact ⟨_, rfl, by rw [HR.out]; simp, HG1.out⟩
      · rw [decide_eq_false hq] at HX
        have HR := Lib.hid (HZ.out hq)
        clear HY HZ hq
        obtain ⟨q, dd, s, ⟨⟨k, r, n, L, d, y⟩, ad, cap⟩⟩ := x
        dsimp only [Mn.v, Mi.v] at *
        go_wp2_with fail
        refine (HX.out _ HG.out).mono ?_
        rintro e1 w1 ⟨rfl, hg1⟩
        have HG1 := Lib.hid (HG.out.trans hg1)
        clear d0 d1 d2 d3 d4 d5 d6 d7 d8
        go_wp2
        go_roundw
        case rel => exact ⟨j + 1, by go_num, by omega, HR.out, HG1.out⟩
        case measure => simp [intOf]; omega
    · have hge : ¬ ((j : Int) < (D.length : Int)) := by omega
      have HR := Lib.hid (HN.out (fun i hi => HNO.out i hi (by omega)))
      go_wp2
      go_ret
      exact ⟨-1, rfl, by rw [HR.out]; rfl, HG.out⟩
set_option maxHeartbeats 1000000 in
theorem containsFunc_any (D : List Mi) (m : Mn) (ad : Option Addr) (cap g : Nat) (w : World) (hD : ItsAt w ad D) (hn : D.length ≤ 9223372036854775807) (hm : MnAt w m) (hb : Cs w g (nC m)) :
    Calls Try.prog 45 #[.slice ad D.length cap, .func (.func 46) #[] #[.pointer (some ⟨g, 0, none⟩)]] w fun e w' => e = .returned (.bool (Ox.among (its D) (pk m.x))) ∧ Gr w w' := by
  have HI : Hid (∀ w', Gr w w' → Calls Try.prog 56 #[.slice ad D.length cap, .func (.func 46) #[] #[.pointer (some ⟨g, 0, none⟩)]] w' fun e w2 => ∃ i : Int, e = .returned (.int .i64 i) ∧ decide (0 ≤ i) = Ox.among (its D) (pk m.x) ∧ Gr w' w2) := fun w' gr => indexFunc_any D m ad cap g w' (hD.gr gr) hn (hm.gr gr) (hb.gr gr)
  generalize Ox.among (its D) (pk m.x) = R at *
  clear hD hm hb
  go_enter Try.func45, Try.ntmps45
  go_wp2_with fail
  refine (HI.out _ ?_).mono ?_
  · exact (by repeat (first | exact Gr.refl _ | refine Gr.alloc ?_ | refine Gr.drew ?_ | refine Gr.trans ?_ (by assumption)))
  rintro e1 w1 ⟨i, rfl, hi, hg1⟩
  have HI2 := Lib.hid hi
  clear hi
  go_wp2
  go_ret
  exact ⟨by rw [← HI2.out]; rfl, (by repeat (first | exact Gr.refl _ | refine Gr.alloc ?_ | refine Gr.drew ?_ | refine Gr.trans ?_ (by assumption)))⟩
set_option maxHeartbeats 1000000 in
theorem has_any (D : List Mi) (m : Mn) (ad : Option Addr) (cap : Nat) (w : World) (hD : ItsAt w ad D) (hn : D.length ≤ 9223372036854775807) (hm : MnAt w m) :
    Calls Try.prog 31 #[.slice ad D.length cap, m.v] w fun e w' => e = .returned (.bool (Ox.among (its D) (pk m.x))) ∧ Gr w w' := by
  have HI : Hid (Calls Try.prog 45 #[.slice ad D.length cap, .func (.func 46) #[] #[.pointer (some ⟨w.heap.size, 0, none⟩)]] (w.alloc (.cells (nC m).toArray 37)) fun e w2 => e = .returned (.bool (Ox.among (its D) (pk m.x))) ∧ Gr (w.alloc (.cells (nC m).toArray 37)) w2) := containsFunc_any D m ad cap _ _ (hD.gr (Gr.refl _).alloc) hn (hm.gr (Gr.refl _).alloc) (Cs.new w (nC m) 37 _ rfl)
  generalize Ox.among (its D) (pk m.x) = R at *
  clear hD hm
  obtain ⟨⟨k, r, n, L, d, y⟩, ad2, cap2⟩ := m
  dsimp only [Mn.v, nC] at *
  generalize L.length = ll at *
  go_enter Try.func31, Try.ntmps31
  have hmf : ∀ (fn : Fn) (first cap : Array Value) (w : World), (Instr.makeFunc fn first cap).run Try.prog w = .ok (.func fn first cap) w := fun _ _ _ _ => rfl
  go_wp2_with fail
  refine HI.out.mono ?_
  rintro e1 w1 ⟨rfl, hg1⟩
  go_wp2
  go_ret
  exact ⟨rfl, (by repeat (first | exact Gr.refl _ | refine Gr.alloc ?_ | refine Gr.drew ?_ | refine Gr.trans ?_ (by assumption)))⟩
end Go.Proofs.Ytilkfgpcibdikaa
