/- pot: what is answered where it goes, and where it does not. -/
import Derived.Test.YtjifhfnigngcjaaPotD
namespace Go.Proofs.Ytjifhfnigngcjaa
open Go.RowKit

theorem check_ok (h i o : Int) (w : World) (hm : Pot.mayB h i o = true) :
    Calls Try.prog 9 #[.agg #[.int .i64 h, .int .i64 i, .int .i64 o]] w fun e w' => e = .returned (.int .i64 0) ∧ Gr w w' := by
  have hr := (Pot.may_iff h i o).1 hm
  have := check_any h i o w (by omega) (by omega)
  rwa [show Pot.chkE h i o = 0 by unfold Pot.chkE; rw [if_pos hm]] at this
theorem free_ok (h i o : Int) (w : World) (hm : Pot.mayB h i o = true) :
    Calls Try.prog 11 #[.agg #[.int .i64 h, .int .i64 i, .int .i64 o]] w fun e w' => e = .returned (.int .i64 (h - i)) ∧ Gr w w' := by
  have hr := (Pot.may_iff h i o).1 hm
  have := free_any h i o w (by omega) (by omega)
  rwa [show Pot.freeE h i o = h - i by unfold Pot.freeE; rw [if_pos hm]] at this
theorem room_ok (h i o : Int) (w : World) (hm : Pot.mayB h i o = true) :
    Calls Try.prog 13 #[.agg #[.int .i64 h, .int .i64 i, .int .i64 o]] w fun e w' => e = .returned (.int .i64 (1000000000000000 - h - o)) ∧ Gr w w' := by
  have hr := (Pot.may_iff h i o).1 hm
  have := room_any h i o w (by omega) (by omega)
  rwa [show Pot.roomE h i o = 1000000000000000 - h - o by unfold Pot.roomE; rw [if_pos hm]] at this

/- what goes: the pot behind -/
theorem do_yes (h i o a : Int) (out : Bool) (w : World) (he : Pot.eDo out h i o a = 0) :
    Calls Try.prog 16 #[.agg #[.int .i64 h, .int .i64 i, .int .i64 o], .bool out, .int .i64 a] w fun e w' =>
      e = .returned (.tuple #[.agg #[.int .i64 (Pot.sg out (h - a) (h + a)), .int .i64 (Pot.sg out i (i + a)), .int .i64 (Pot.sg out (o + a) o)], .int .i64 0]) ∧ Gr w w' := by
  have hr : 0 ≤ i ∧ i ≤ h ∧ 0 ≤ o ∧ h + o ≤ 1000000000000000 := by
    rcases Pot.err_cases h i o a (Pot.mostDo out h i o) with ⟨_, e2, _⟩ | ⟨e1, _⟩ | ⟨e1, _⟩
    · exact ((Pot.arg_iff h i o a).1 e2).1
    · unfold Pot.eDo at he; rw [e1] at he; cases he
    · unfold Pot.eDo at he; rw [e1] at he; cases he
  have := do_any h i o a out w (by omega) (by omega)
  rw [he] at this
  cases out
  · simpa [Pot.sg, Pot.pick, Int.one_mul, Int.zero_mul] using this
  · simpa [Pot.sg, Pot.pick, Int.one_mul, Int.zero_mul, Int.neg_mul, ← Int.sub_eq_add_neg] using this
theorem do_not (h i o a : Int) (out : Bool) (w : World) (ho : o ≤ 9223372036854775807) (hh : h ≤ 9223372036854775807) (he : Pot.eDo out h i o a ≠ 0) :
    Calls Try.prog 16 #[.agg #[.int .i64 h, .int .i64 i, .int .i64 o], .bool out, .int .i64 a] w fun e w' =>
      e = .returned (.tuple #[.agg #[.int .i64 0, .int .i64 0, .int .i64 0], .int .i64 (Pot.eDo out h i o a)]) ∧ Gr w w' := by
  have := do_any h i o a out w ho hh
  simpa [Pot.pick, he] using this
theorem un_rng {h i o a : Int} {out : Bool} (he : Pot.eUn out h i o a = 0) : 0 ≤ i ∧ i ≤ h ∧ 0 ≤ o ∧ h + o ≤ 1000000000000000 := by
  rcases Pot.err_cases h i o a (Pot.mostUn out i o) with ⟨_, e2, _⟩ | ⟨e1, _⟩ | ⟨e1, _⟩
  · exact ((Pot.arg_iff h i o a).1 e2).1
  · unfold Pot.eUn at he; rw [e1] at he; cases he
  · unfold Pot.eUn at he; rw [e1] at he; cases he
theorem undo_yes (h i o a : Int) (out : Bool) (w : World) (he : Pot.eUn out h i o a = 0) :
    Calls Try.prog 18 #[.agg #[.int .i64 h, .int .i64 i, .int .i64 o], .bool out, .int .i64 a] w fun e w' =>
      e = .returned (.tuple #[.agg #[.int .i64 (Pot.sg out (h + a) (h - a)), .int .i64 (Pot.sg out i (i - a)), .int .i64 (Pot.sg out (o - a) o)], .int .i64 0]) ∧ Gr w w' := by
  have hr := un_rng he
  have := undo_any h i o a out w (by omega) (by omega)
  rw [he] at this
  cases out
  · simpa [Pot.sg, Pot.pick, Int.one_mul, Int.zero_mul, Int.neg_mul, ← Int.sub_eq_add_neg] using this
  · simpa [Pot.sg, Pot.pick, Int.one_mul, Int.zero_mul, Int.neg_mul, ← Int.sub_eq_add_neg] using this
theorem keep_yes (h i o a : Int) (out : Bool) (w : World) (he : Pot.eUn out h i o a = 0) :
    Calls Try.prog 20 #[.agg #[.int .i64 h, .int .i64 i, .int .i64 o], .bool out, .int .i64 a] w fun e w' =>
      e = .returned (.tuple #[.agg #[.int .i64 h, .int .i64 (Pot.sg out i (i - a)), .int .i64 (Pot.sg out (o - a) o)], .int .i64 0]) ∧ Gr w w' := by
  have hr := un_rng he
  have := keep_any h i o a out w (by omega) (by omega)
  rw [he] at this
  cases out
  · simpa [Pot.sg, Pot.pick, Int.zero_mul, Int.neg_mul, ← Int.sub_eq_add_neg] using this
  · simpa [Pot.sg, Pot.pick, Int.zero_mul, Int.neg_mul, ← Int.sub_eq_add_neg] using this
end Go.Proofs.Ytjifhfnigngcjaa
