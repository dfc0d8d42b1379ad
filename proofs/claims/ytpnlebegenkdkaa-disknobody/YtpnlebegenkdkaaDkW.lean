
/- disk: what none, or one that no call made, answers. -/
import Derived.Test.YtpnlebegenkdkaaDkQ
namespace Go.Proofs.Ytpnlebegenkdkaa
open Go.RowKit Go.Maps
variable {w w' : World}

set_option maxHeartbeats 1000000 in
set_option maxRecDepth 100000 in
theorem noFind (v : Value) (h : Nob w v) (n : Int) : Calls Try.prog 42 #[v, .int .i64 n] w fun e w' => e = .returned (.tuple #[.agg #[.int .i64 0, .string ⟨#[]⟩, .int .i64 0], .int .i64 1]) ∧ Gr w w' := by
  have HP := Lib.hid (noPower v (h.gr ((Gr.refl w).alloc (o := .cells #[.int .i64 0, .string ⟨#[]⟩, .int .i64 0] 40))))
  clear h
  go_enter Try.func42, Try.ntmps42
  go_wp2_with (go_at_call 44; refine HP.out.mono ?_; rintro e w' ⟨rfl, rfl⟩)
  exact bodyPost_ret (v := .tuple #[.agg #[.int .i64 0, .string ⟨#[]⟩, .int .i64 0], .int .i64 1]) (by simp [results, Try.results42, go_sem]) rfl ⟨rfl, (by (repeat' (first | with_reducible exact Gr.refl _ | with_reducible refine Gr.set ?_ _ ?_ _ | with_reducible refine Gr.alloc ?_ | with_reducible refine Gr.drew ?_ | with_reducible refine Gr.trans ?_ (by assumption))) <;> (first | (simp; done) | (simp; omega) | omega))⟩
set_option maxHeartbeats 1000000 in
set_option maxRecDepth 100000 in
theorem noRead (v : Value) (h : Nob w v) (n : Int) : Calls Try.prog 17 #[v, .int .i64 n] w fun e w' => e = .returned (.tuple #[.string ⟨#[]⟩, .int .i64 1]) ∧ Gr w w' := by
  have HF := Lib.hid (noFind v h n)
  have HC : Hid (∀ w1 : World, Calls Try.prog 43 #[.string ⟨#[]⟩] w1 fun e w' => e = .returned (.string ⟨#[]⟩) ∧ Gr w1 w') := fun w1 => clone_any ⟨#[]⟩ w1 (by decide)
  clear h
  go_enter Try.func17, Try.ntmps17
  go_wp2_with fail
  refine HF.out.mono ?_
  rintro e w1 ⟨rfl, hg⟩
  go_wp2_with fail
  refine (HC.out _).mono ?_
  rintro e w2 ⟨rfl, hg2⟩
  go_wp2
  go_ret2
  exact ⟨rfl, hg.trans ((Gr.refl w1).alloc.trans hg2)⟩
set_option maxHeartbeats 1000000 in
set_option maxRecDepth 100000 in
theorem noSync (v : Value) (h : Nob w v) (n : Int) : Calls Try.prog 19 #[v, .int .i64 n] w fun e w' => e = .returned (.int .i64 1) ∧ Gr w w' := by
  have HF := Lib.hid (noFind v h n)
  clear h
  go_enter Try.func19, Try.ntmps19
  go_wp2_with fail
  refine HF.out.mono ?_
  rintro e w1 ⟨rfl, hg⟩
  go_wp2
  go_ret
  exact ⟨rfl, hg.alloc⟩
set_option maxHeartbeats 1000000 in
set_option maxRecDepth 100000 in
theorem noCut (v : Value) (h : Nob w v) (n k : Int) : Calls Try.prog 20 #[v, .int .i64 n, .int .i64 k] w fun e w' => e = .returned (.int .i64 1) ∧ Gr w w' := by
  have HF := Lib.hid (noFind v h n)
  clear h
  go_enter Try.func20, Try.ntmps20
  go_wp2_with fail
  refine HF.out.mono ?_
  rintro e w1 ⟨rfl, hg⟩
  go_wp2
  go_ret
  exact ⟨rfl, hg.alloc⟩
set_option maxHeartbeats 1000000 in
set_option maxRecDepth 100000 in
theorem noRemove (v : Value) (h : Nob w v) (n : Int) : Calls Try.prog 21 #[v, .int .i64 n] w fun e w' => e = .returned (.int .i64 1) ∧ Gr w w' := by
  have HF := Lib.hid (noFind v h n)
  clear h
  go_enter Try.func21, Try.ntmps21
  go_wp2_with fail
  refine HF.out.mono ?_
  rintro e w1 ⟨rfl, hg⟩
  go_wp2
  go_ret
  exact ⟨rfl, hg.alloc⟩
set_option maxHeartbeats 1000000 in
set_option maxRecDepth 100000 in
theorem noAppend (v : Value) (h : Nob w v) (n : Int) (d : ByteArray) : Calls Try.prog 18 #[v, .int .i64 n, .string d] w fun e w' => e = .returned (.int .i64 1) ∧ Gr w w' := by
  have HP := Lib.hid (noPower v h)
  clear h
  go_enter Try.func18, Try.ntmps18
  go_wp2_with (go_at_call 44; refine HP.out.mono ?_; rintro e w' ⟨rfl, rfl⟩)
  go_ret
  exact ⟨rfl, Gr.refl _⟩
set_option maxHeartbeats 1000000 in
set_option maxRecDepth 100000 in
theorem noArm (v : Value) (h : Nob w v) (n : Int) : Calls Try.prog 22 #[v, .int .i64 n, .slice none 0 0] w fun e w' => e = .returned (.int .i64 1) ∧ Gr w w' := by
  have HP := Lib.hid (noPower v h)
  clear h
  go_enter Try.func22, Try.ntmps22
  go_wp2_with (go_at_call 44; refine HP.out.mono ?_; rintro e w' ⟨rfl, rfl⟩)
  go_ret
  exact ⟨rfl, Gr.refl _⟩
set_option maxHeartbeats 1000000 in
set_option maxRecDepth 100000 in
theorem noCrash (v : Value) (h : Nob w v) : Calls Try.prog 23 #[v, .slice none 0 0] w fun e w' => e = .returned (.int .i64 1) ∧ Gr w w' := by
  have HP := Lib.hid (noPower v h)
  clear h
  go_enter Try.func23, Try.ntmps23
  go_wp2_with (go_at_call 44; refine HP.out.mono ?_; rintro e w' ⟨rfl, rfl⟩)
  go_ret
  exact ⟨rfl, Gr.refl _⟩
set_option maxHeartbeats 1000000 in
set_option maxRecDepth 100000 in
theorem noBoot (v : Value) (h : Nob w v) : Calls Try.prog 24 #[v] w fun e w' => e = .returned (.int .i64 1) ∧ Gr w w' := by
  have HN := Lib.hid (noNone v h)
  clear h
  go_enter Try.func24, Try.ntmps24
  go_wp2_with (go_at_call 51; refine HN.out.mono ?_; rintro e w' ⟨rfl, rfl⟩)
  go_ret
  exact ⟨rfl, Gr.refl _⟩
set_option maxHeartbeats 1000000 in
set_option maxRecDepth 100000 in
theorem noDead (v : Value) (h : Nob w v) : Calls Try.prog 25 #[v] w fun e w' => e = .returned (.bool false) ∧ Gr w w' := by
  have HN := Lib.hid (noNone v h)
  clear h
  go_enter Try.func25, Try.ntmps25
  go_wp2_with (go_at_call 51; refine HN.out.mono ?_; rintro e w' ⟨rfl, rfl⟩)
  go_ret
  exact ⟨rfl, Gr.refl _⟩
set_option maxHeartbeats 1000000 in
set_option maxRecDepth 100000 in
theorem noUsed (v : Value) (h : Nob w v) : Calls Try.prog 26 #[v] w fun e w' => e = .returned (.int .i64 0) ∧ Gr w w' := by
  have HN := Lib.hid (noNone v h)
  clear h
  go_enter Try.func26, Try.ntmps26
  go_wp2_with (go_at_call 51; refine HN.out.mono ?_; rintro e w' ⟨rfl, rfl⟩)
  go_ret
  exact ⟨rfl, Gr.refl _⟩
set_option maxHeartbeats 1000000 in
set_option maxRecDepth 100000 in
theorem noFiles (v : Value) (h : Nob w v) : Calls Try.prog 27 #[v] w fun e w' => e = .returned (.slice none 0 0) ∧ Gr w w' := by
  have HN := Lib.hid (noNone v h)
  clear h
  go_enter Try.func27, Try.ntmps27
  go_wp2_with (go_at_call 51; refine HN.out.mono ?_; rintro e w' ⟨rfl, rfl⟩)
  go_ret
  exact ⟨rfl, Gr.refl _⟩
set_option maxHeartbeats 1000000 in
set_option maxRecDepth 100000 in
theorem noImage (v : Value) (h : Nob w v) : Calls Try.prog 28 #[v] w fun e w' => e = .returned (.slice none 0 0) ∧ Gr w w' := by
  have HN := Lib.hid (noFiles v h)
  clear h
  go_enter Try.func28, Try.ntmps28
  go_wp2_with (go_at_call 27; refine HN.out.mono ?_; rintro e w' ⟨rfl, hg⟩)
  go_loopw [9, 3] (fun i v wr => i = .int .i64 0 ∧ v = .slice none 0 0 ∧ Gr w wr) (fun _ _ _ => 0)
  case atStart => exact ⟨rfl, rfl, hg⟩
  case round =>
    obtain ⟨rfl, rfl, hg2⟩ := hrel
    go_wp2
    go_ret
    exact ⟨rfl, hg2⟩
end Go.Proofs.Ytpnlebegenkdkaa
