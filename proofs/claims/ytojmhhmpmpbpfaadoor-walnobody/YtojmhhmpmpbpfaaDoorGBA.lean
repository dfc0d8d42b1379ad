/- Parts of these proofs, laid together. -/
import Derived.Test.YtojmhhmpmpbpfaaDoorGJ
import Derived.Test.YtojmhhmpmpbpfaaDoorGW
namespace Go.Proofs.YtojmhhmpmpbpfaaDoor
open Go.RowKit Go.Maps
variable {w w' : World}

set_option maxHeartbeats 1000000 in
set_option maxRecDepth 100000 in
theorem noFind (v : Value) (h : Nob w v) (n : Int) : Calls Tryd.prog 62 #[v, .int .i64 n] w fun e w' => e = .returned (.tuple #[.agg #[.int .i64 0, .string ⟨#[]⟩, .int .i64 0], .int .i64 1]) ∧ Gr w w' := by
  have HP := Lib.hid (noPower v (h.gr ((Gr.refl w).alloc (o := .cells #[.int .i64 0, .string ⟨#[]⟩, .int .i64 0] 68))))
  clear h
  go_enter Tryd.func62, Tryd.ntmps62
  go_wp2_with (go_at_call 58; refine HP.out.mono ?_; rintro e w' ⟨rfl, rfl⟩)
  exact bodyPost_ret (v := .tuple #[.agg #[.int .i64 0, .string ⟨#[]⟩, .int .i64 0], .int .i64 1]) (by simp [results, Tryd.results62, go_sem]) rfl ⟨rfl, (by (repeat' (first | with_reducible exact Gr.refl _ | with_reducible refine Gr.set ?_ _ ?_ _ | with_reducible refine Gr.alloc ?_ | with_reducible refine Gr.drew ?_ | with_reducible refine Gr.trans ?_ (by assumption))) <;> (first | (simp; done) | (simp; omega) | omega))⟩
set_option maxHeartbeats 1000000 in
set_option maxRecDepth 100000 in
theorem noRead (v : Value) (h : Nob w v) (n : Int) : Calls Tryd.prog 39 #[v, .int .i64 n] w fun e w' => e = .returned (.tuple #[.string ⟨#[]⟩, .int .i64 1]) ∧ Gr w w' := by
  have HF := Lib.hid (noFind v h n)
  have HC : Hid (∀ w1 : World, Calls Tryd.prog 26 #[.string ⟨#[]⟩] w1 fun e w' => e = .returned (.string ⟨#[]⟩) ∧ Gr w1 w') := fun w1 => clone_any ⟨#[]⟩ w1 (by decide)
  clear h
  go_enter Tryd.func39, Tryd.ntmps39
  go_wp2_with fail
  refine HF.out.mono ?_
  rintro e w1 ⟨rfl, hg⟩
  go_wp2_with fail
  refine (HC.out _).mono ?_
  rintro e w2 ⟨rfl, hg2⟩
  go_wp2
  go_ret2
  exact ⟨rfl, hg.trans ((Gr.refl w1).alloc.trans hg2)⟩
set_option maxHeartbeats 1000000 in
set_option maxRecDepth 100000 in
theorem noSync (v : Value) (h : Nob w v) (n : Int) : Calls Tryd.prog 36 #[v, .int .i64 n] w fun e w' => e = .returned (.int .i64 1) ∧ Gr w w' := by
  have HF := Lib.hid (noFind v h n)
  clear h
  go_enter Tryd.func36, Tryd.ntmps36
  go_wp2_with fail
  refine HF.out.mono ?_
  rintro e w1 ⟨rfl, hg⟩
  go_wp2
  go_ret
  exact ⟨rfl, hg.alloc⟩
set_option maxHeartbeats 1000000 in
set_option maxRecDepth 100000 in
theorem noCut (v : Value) (h : Nob w v) (n k : Int) : Calls Tryd.prog 67 #[v, .int .i64 n, .int .i64 k] w fun e w' => e = .returned (.int .i64 1) ∧ Gr w w' := by
  have HF := Lib.hid (noFind v h n)
  clear h
  go_enter Tryd.func67, Tryd.ntmps67
  go_wp2_with fail
  refine HF.out.mono ?_
  rintro e w1 ⟨rfl, hg⟩
  go_wp2
  go_ret
  exact ⟨rfl, hg.alloc⟩
set_option maxHeartbeats 1000000 in
set_option maxRecDepth 100000 in
theorem noRemove (v : Value) (h : Nob w v) (n : Int) : Calls Tryd.prog 38 #[v, .int .i64 n] w fun e w' => e = .returned (.int .i64 1) ∧ Gr w w' := by
  have HF := Lib.hid (noFind v h n)
  clear h
  go_enter Tryd.func38, Tryd.ntmps38
  go_wp2_with fail
  refine HF.out.mono ?_
  rintro e w1 ⟨rfl, hg⟩
  go_wp2
  go_ret
  exact ⟨rfl, hg.alloc⟩
set_option maxHeartbeats 1000000 in
set_option maxRecDepth 100000 in
theorem noAppend (v : Value) (h : Nob w v) (n : Int) (d : ByteArray) : Calls Tryd.prog 35 #[v, .int .i64 n, .string d] w fun e w' => e = .returned (.int .i64 1) ∧ Gr w w' := by
  have HP := Lib.hid (noPower v h)
  clear h
  go_enter Tryd.func35, Tryd.ntmps35
  go_wp2_with (go_at_call 58; refine HP.out.mono ?_; rintro e w' ⟨rfl, rfl⟩)
  go_ret
  exact ⟨rfl, Gr.refl _⟩
set_option maxHeartbeats 1000000 in
set_option maxRecDepth 100000 in
theorem noUsed (v : Value) (h : Nob w v) : Calls Tryd.prog 60 #[v] w fun e w' => e = .returned (.int .i64 0) ∧ Gr w w' := by
  have HN := Lib.hid (noNone v h)
  clear h
  go_enter Tryd.func60, Tryd.ntmps60
  go_wp2_with (go_at_call 50; refine HN.out.mono ?_; rintro e w' ⟨rfl, rfl⟩)
  go_ret
  exact ⟨rfl, Gr.refl _⟩
set_option maxHeartbeats 1000000 in
set_option maxRecDepth 100000 in
theorem noFiles (v : Value) (h : Nob w v) : Calls Tryd.prog 30 #[v] w fun e w' => e = .returned (.slice none 0 0) ∧ Gr w w' := by
  have HN := Lib.hid (noNone v h)
  clear h
  go_enter Tryd.func30, Tryd.ntmps30
  go_wp2_with (go_at_call 50; refine HN.out.mono ?_; rintro e w' ⟨rfl, rfl⟩)
  go_ret
  exact ⟨rfl, Gr.refl _⟩
set_option maxHeartbeats 1000000 in
set_option maxRecDepth 100000 in
theorem noImage (v : Value) (h : Nob w v) : Calls Tryd.prog 13 #[v] w fun e w' => e = .returned (.slice none 0 0) ∧ Gr w w' := by
  have HN := Lib.hid (noFiles v h)
  clear h
  go_enter Tryd.func13, Tryd.ntmps13
  go_wp2_with (go_at_call 30; refine HN.out.mono ?_; rintro e w' ⟨rfl, hg⟩)
  go_loopw [9, 3] (fun i v wr => i = .int .i64 0 ∧ v = .slice none 0 0 ∧ Gr w wr) (fun _ _ _ => 0)
  case atStart => exact ⟨rfl, rfl, hg⟩
  case round =>
    obtain ⟨rfl, rfl, hg2⟩ := hrel
    go_wp2
    go_ret
    exact ⟨rfl, hg2⟩
end Go.Proofs.YtojmhhmpmpbpfaaDoor
namespace Go.Proofs.YtojmhhmpmpbpfaaDoor
open Go.RowKit Go.Maps
variable {w w' : World}

set_option maxHeartbeats 4000000 in
set_option maxRecDepth 100000 in
theorem noPowerW (v : Value) (h : Nob w v) : Calls Tryd.prog 24 #[v] w fun e w' => e = .returned (.int .i64 1) ∧ Gr w w' := by
  have HR := Lib.hid (noRead v h (-1))
  clear h
  go_enter Tryd.func24, Tryd.ntmps24
  go_wp2_with fail
  refine HR.out.mono ?_
  rintro e w1 ⟨rfl, hg⟩
  have HG := Lib.hid hg
  clear hg
  go_wp2
  go_ret
  exact ⟨rfl, HG.out⟩
set_option maxHeartbeats 4000000 in
set_option maxRecDepth 100000 in
theorem noOpen (v : Value) (h : Nob w v) (d : ByteArray) : Calls Tryd.prog 9 #[v, .string d] w fun e w' => e = .returned (.tuple #[nilP, .slice none 0 0, .int .i64 1]) ∧ Gr w w' := by
  have HR := Lib.hid (noPowerW v h)
  clear h
  go_enter Tryd.func9, Tryd.ntmps9
  go_wp2_with fail
  refine HR.out.mono ?_
  rintro e w1 ⟨rfl, hg⟩
  have HG := Lib.hid hg
  clear hg
  go_wp2
  go_ret3
  exact ⟨rfl, HG.out⟩
end Go.Proofs.YtojmhhmpmpbpfaaDoor
