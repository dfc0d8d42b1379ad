/- For every text the law LexicPlaces answers true: at each token's place its text stands, tokens rise, and between them, and at both ends, stand blanks alone. -/
import Derived.Test.YtdlcmbbaicoicaaAwkX
import Derived.Test.YtdlcmbbaicoicaaOpenT
import Derived.Test.YtdlcmbbaicoicaaBlkX
import Derived.Test.YtdlcmbbaicoicaaLexC
import Derived.Test.YtdlcmbbaicoicaaRegH
import Derived.Deep.DeepCutAuto
namespace Go.Proofs.Ytdlcmbbaicoicaa
open Go.ChangeShapes Go.WideShapes Go.ChangeAt Go.RowKit
open Go.ChangeMaps (open_string shut_string)
open Lex (Tok scT scF scA S ckE pl blanksB)

set_option maxHeartbeats 8000000 in
set_option maxRecDepth 100000 in
theorem lexicPlaces_walk (s : ByteArray) (w : World) (hs : s.size ≤ 9223372036854775807) : Calls Try.prog 7 #[.string s] w fun e w' => e = .returned (.bool true) ∧ Gr w w' := by
  have H3 : Hid (∀ w', Calls Try.prog 12 #[] w' fun e w2 => e = .returned (.bool true) ∧ Gr w' w2) := awake_any
  have H1 : Hid (∀ w', Calls Try.prog 9 #[.string s] w' fun e w2 => ∃ ad cap, e = .returned (.tuple #[.slice ad (scT s.data.toList).length cap, .agg #[.int .i64 (scF s.data.toList), .int .i64 (scA s.data.toList)]]) ∧ (scT s.data.toList).length ≤ cap ∧ ToksAt w2 ad (scT s.data.toList) ∧ Gr w' w2) := by
    intro w'
    refine (Scan_any s w').mono ?_
    rintro e w2 ⟨ad, cap, h1, h2, h3, _, h4⟩
    exact ⟨ad, cap, h1, h2, h3, h4⟩
  have hl : s.data.toList.length = s.size := by simp
  have hcase : (scF s.data.toList = 3 ∧ scT s.data.toList = []) ∨ (scF s.data.toList = 80 ∧ scT s.data.toList = [] ∧ 0 ≤ scA s.data.toList ∧ scA s.data.toList < (s.size : Int)) ∨ (scF s.data.toList = 0 ∧ s.size ≤ 2000 ∧ pl s.data.toList 0 (scT s.data.toList) ∧ ckE (scT s.data.toList) ≠ 80 ∧ ∀ x ∈ scT s.data.toList, x.t.size ≤ 2000) := by
    by_cases hb : 2000 < s.size
    · obtain ⟨h1, _, h3⟩ := sc_big hb
      exact Or.inl ⟨h1, h3⟩
    · cases h2 : (S s.data.toList 0).2 with
      | none =>
        obtain ⟨h1, _, h3⟩ := sc_yes hb h2
        rw [h1, h3]
        refine Or.inr (Or.inr ⟨rfl, by omega, Lex.places_all _ h2, Lex.okays_S _ h2, fun x hx => ?_⟩)
        have := (Lex.tok_rng _ _ _ x hx).2
        omega
      | some p =>
        obtain ⟨h1, h4, h3⟩ := sc_no hb h2
        have h5 := Lex.fault_at _ _ _ p h2
        rw [h1, h3, h4]
        exact Or.inr (Or.inl ⟨rfl, rfl, by omega, by omega⟩)
  have hTl := Lex.scT_len s.data.toList
  generalize scT s.data.toList = T at *
  generalize scF s.data.toList = RF at *
  generalize scA s.data.toList = RA at *
  rcases hcase with ⟨rfl, rfl⟩ | ⟨rfl, rfl, n0, n1⟩ | ⟨rfl, hsz, hpl, hck, hts⟩
  · go_enter Try.func7, Try.ntmps7
    go_wp2_with fail
    refine (H1.out _).mono ?_
    rintro e w1 ⟨ad1, cap1, rfl, _, _, hg1⟩
    go_wp2_with fail
    refine (H3.out _).mono ?_
    rintro e w4 ⟨rfl, hg4⟩
    go_wp2
    go_ret
    exact ⟨rfl, hg1.trans ((Gr.refl _).alloc.trans hg4)⟩
  · go_enter Try.func7, Try.ntmps7
    go_wp2_with fail
    refine (H1.out _).mono ?_
    rintro e w1 ⟨ad1, cap1, rfl, _, _, hg1⟩
    go_wp2_with fail
    refine (H3.out _).mono ?_
    rintro e w4 ⟨rfl, hg4⟩
    go_wp2
    go_ret
    exact ⟨rfl, hg1.trans ((Gr.refl _).alloc.trans hg4)⟩
  · have HP0 : Hid (pl s.data.toList 0 (T.drop 0)) := by rw [List.drop_zero]; exact hpl
    have HBl : Hid (∀ (g : ByteArray) (w' : World), g.size ≤ 9223372036854775807 → Calls Try.prog 19 #[.string g] w' fun e w2 => e = .returned (.bool (blanksB g.data.toList)) ∧ w2 = w') := fun g w' h => blanks_any g w' h
    have HCk : Hid (∀ (ad : Option Addr) (cap : Nat) (w' : World), ToksAt w' ad T → T.length ≤ cap → Calls Try.prog 15 #[.slice ad T.length cap] w' fun e w2 => e = .returned (.int .i64 (ckE T)) ∧ Gr w' w2) := fun ad cap w' h1 h2 => check_any T ad cap w' h1 h2 (by omega) (fun x hx => by have := hts x hx; omega)
    have hckb : (ckE T != 80) = true := by simpa using hck
    clear hpl hck hts
    generalize ckE T = CK at *
    go_enter Try.func7, Try.ntmps7
    go_wp2_with fail
    refine (H1.out _).mono ?_
    rintro e w1 ⟨ad1, cap1, rfl, hcp1, hT1, hg1⟩
    have HG1 : Hid (Gr w w1) := hg1
    have HT1 : Hid (ToksAt w1 ad1 T) := hT1
    clear hg1 hT1
    go_wp2
    go_loopw [5, 6] (fun a' i wr => ∃ (k a : Nat), k ≤ T.length ∧ i = .int .i64 (k : Int) ∧ a' = .int .i64 (a : Int) ∧ pl s.data.toList a (T.drop k) ∧ Gr w1 wr) (fun _ i _ => T.length - (intOf i).toNat)
    case atStart => exact ⟨0, 0, by omega, rfl, rfl, HP0.out, (Gr.refl _).alloc⟩
    case round =>
      obtain ⟨k, a, hk, rfl, rfl, hp, hg⟩ := hrel
      have HG : Hid (Gr w1 wr) := hg
      by_cases hlt : k < T.length
      · rw [List.drop_eq_getElem_cons hlt] at hp
        obtain ⟨p, q1, q2, q3, q4, q5, q6⟩ := hp
        rw [hl] at q3
        obtain ⟨b, off, rfl, hb1, x0, x1, x2⟩ := (HT1.out.gr HG.out) k hlt
        rw [q1] at x2
        have HX : Hid (BoxAt (wr.alloc (.cells #[.int .i64 T[k].k, .string T[k].t, .int .i64 (p : Int)] 39)) wr.heap.size (.int .i64 T[k].k) (.string T[k].t) (.int .i64 (p : Int))) := BoxAt.new wr _ _ _ _ _ rfl
        have HP6 : Hid (pl s.data.toList (p + T[k].t.size) (T.drop (k + 1))) := q6
        have hx1 : s.extract p (p + T[k].t.size) = T[k].t := by
          apply Lex.list_bytes
          rw [Lib.extract_data]
          simpa using q4
        have hx2 : (s.extract a p).data.toList = (s.data.toList.drop a).take (p - a) := by
          rw [Lib.extract_data]
        have hxz : (s.extract a p).size ≤ 9223372036854775807 := by simp; omega
        have HBk : Hid (∀ w', Calls Try.prog 19 #[.string (s.extract a p)] w' fun e w2 => e = .returned (.bool true) ∧ w2 = w') := fun w' => by have := HBl.out (s.extract a p) w' hxz; rw [hx2, q5] at this; exact this
        have hs1 : ∀ W : World, (Instr.slice 9 (.string s) (some (.int .i64 (p : Int))) (some (.int .i64 ((p + T[k].t.size : Nat) : Int))) none).run Try.prog W = .ok (.string T[k].t) W := fun W => by
          have := run_slice_string (P := Try.prog) W 9 s .i64 .i64 (p : Int) ((p + T[k].t.size : Nat) : Int) Try.underlying9 (by omega) (by omega) (by omega)
          rw [Int.toNat_natCast, Int.toNat_natCast, hx1] at this
          exact this
        have hs2 : ∀ W : World, (Instr.slice 9 (.string s) (some (.int .i64 (a : Int))) (some (.int .i64 (p : Int))) none).run Try.prog W = .ok (.string (s.extract a p)) W := fun W => by
          have := run_slice_string (P := Try.prog) W 9 s .i64 .i64 (a : Int) (p : Int) Try.underlying9 (by omega) (by omega) (by omega)
          rw [Int.toNat_natCast, Int.toNat_natCast] at this
          exact this
        generalize s.extract a p = g at *
        have c1 : ¬ ((p : Int) < (a : Int)) := by omega
        have c2 : ¬ ((s.size : Int) < (p : Int)) := by omega
        have c3 : IntKind.i64.wrap ((s.size : Int) - (p : Int)) = ((s.size - p : Nat) : Int) := by rw [IntKind.wrap_i64]; omega
        have c4 : ¬ (((s.size - p : Nat) : Int) < (T[k].t.size : Int)) := by omega
        have c5 : IntKind.i64.wrap ((p : Int) + (T[k].t.size : Int)) = ((p + T[k].t.size : Nat) : Int) := by rw [IntKind.wrap_i64]; omega
        have c6 : wrap64 ((p : Int) + (T[k].t.size : Int)) = ((p + T[k].t.size : Nat) : Int) := by unfold wrap64; omega
        have hnn : p + T[k].t.size ≤ s.size := q3
        clear hx1 hx2 hxz q1 q2 q3 q4 q5 q6 hg HBl
        obtain ⟨nt, hnt⟩ : ∃ n, T[k].t.size = n := ⟨_, rfl⟩
        obtain ⟨pq, hpq⟩ : ∃ n, p + T[k].t.size = n := ⟨_, rfl⟩
        obtain ⟨sp, hsp⟩ : ∃ n, s.size - p = n := ⟨_, rfl⟩
        rw [hpq] at hs1 c5 c6 HP6 hnn
        rw [hsp] at c3 c4
        rw [hnt] at c4 c5 c6
        have HNT : Hid (T[k].t.size = nt) := hnt
        clear hpq hsp
        go_upto_region 9 with fail
        obtain ⟨W, hW⟩ : ∃ x, x = wr.alloc (.cells #[.int .i64 T[k].k, .string T[k].t, .int .i64 (p : Int)] 39) := ⟨_, rfl⟩
        have HGW : Hid (Gr w1 W) := by show Gr _ _; rw [hW]; exact HG.out.alloc
        rw [← hW] at HX ⊢
        obtain ⟨B, hB⟩ : ∃ x, x = wr.heap.size := ⟨_, rfl⟩
        rw [← hB] at HX ⊢
        clear hW hB x0 x1 x2 hb1
        obtain ⟨z0, z1, z2, _, _, _, zl⟩ := HX.out
        have hk : W.drew.cell? ⟨B, 1, none⟩ = some (.string T[k].t) ∧ W.drew.cell? ⟨B, 2, none⟩ = some (.int .i64 (p : Int)) := ⟨z1, z2⟩
        refine wp_region_held_drew (S := (fun w' => w'.cell? ⟨B, 1, none⟩ = some (.string T[k].t) ∧ w'.cell? ⟨B, 2, none⟩ = some (.int .i64 (p : Int)))) (by kernel_rfl) (by with_reducible exact hk) (fun hHeld => ?_)
        refine take_yes 0 49 (v := ?_) rfl rfl (by kernel_rfl) (by kernel_rfl) (by kernel_rfl) (fun _ _ _ h => h) (by rfl) ?_ hHeld ?_
        rotate_left
        · (intro w hSw; (try dsimp only at hSw); go_simp; try with_reducible rfl)
        simp only [Act.put, List.setIfInBounds_toArray, List.set_cons_zero, List.set_cons_succ]
        refine take_yes 1 50 (v := ?_) rfl rfl (by kernel_rfl) (by kernel_rfl) (by kernel_rfl) (fun _ _ _ h => h) (by rfl) ?_ hHeld ?_
        rotate_left
        · (intro w hSw; (try dsimp only at hSw); go_simp; try with_reducible rfl)
        simp only [Act.put, List.setIfInBounds_toArray, List.set_cons_zero, List.set_cons_succ]
        refine take_yes 2 51 (v := ?_) rfl rfl (by kernel_rfl) (by kernel_rfl) (by kernel_rfl) (fun _ _ _ h => h) (by rfl) ?_ hHeld ?_
        rotate_left
        · (intro w hSw; (try dsimp only at hSw); go_simp; try with_reducible rfl)
        simp only [Act.put, List.setIfInBounds_toArray, List.set_cons_zero, List.set_cons_succ]
        refine take_yes 3 52 (v := ?_) rfl rfl (by kernel_rfl) (by kernel_rfl) (by kernel_rfl) (fun _ _ _ h => h) (by rfl) ?_ hHeld ?_
        rotate_left
        · (intro w hSw; (try dsimp only at hSw); go_simp; try with_reducible rfl)
        simp only [Act.put, List.setIfInBounds_toArray, List.set_cons_zero, List.set_cons_succ]
        refine take_yes 4 53 (v := ?_) rfl rfl (by kernel_rfl) (by kernel_rfl) (by kernel_rfl) (fun _ _ _ h => h) (by rfl) ?_ hHeld ?_
        rotate_left
        · (intro w hSw; (try dsimp only at hSw); go_simp; try with_reducible rfl)
        simp only [Act.put, List.setIfInBounds_toArray, List.set_cons_zero, List.set_cons_succ]
        refine take_yes 5 54 (v := ?_) rfl rfl (by kernel_rfl) (by kernel_rfl) (by kernel_rfl) (fun _ _ _ h => h) (by rfl) ?_ hHeld ?_
        rotate_left
        · (intro w hSw; (try dsimp only at hSw); go_simp; try with_reducible rfl)
        simp only [Act.put, List.setIfInBounds_toArray, List.set_cons_zero, List.set_cons_succ]
        refine take_yes 6 55 (v := ?_) rfl rfl (by kernel_rfl) (by kernel_rfl) (by kernel_rfl) (fun _ _ _ h => h) (by rfl) ?_ hHeld ?_
        rotate_left
        · (intro w hSw; (try dsimp only at hSw); go_simp; try with_reducible rfl)
        simp only [Act.put, List.setIfInBounds_toArray, List.set_cons_zero, List.set_cons_succ]
        refine take_yes 7 56 (v := ?_) rfl rfl (by kernel_rfl) (by kernel_rfl) (by kernel_rfl) (fun _ _ _ h => h) (by rfl) ?_ hHeld ?_
        rotate_left
        · (intro w hSw; (try dsimp only at hSw); go_simp; try with_reducible rfl)
        simp only [Act.put, List.setIfInBounds_toArray, List.set_cons_zero, List.set_cons_succ]
        refine take_yes 8 57 (v := ?_) rfl rfl (by kernel_rfl) (by kernel_rfl) (by kernel_rfl) (fun _ _ _ h => h) (by rfl) ?_ hHeld ?_
        rotate_left
        · (intro w hSw; (try dsimp only at hSw); go_simp; try with_reducible rfl)
        simp only [Act.put, List.setIfInBounds_toArray, List.set_cons_zero, List.set_cons_succ]
        refine take_yes 9 58 (v := ?_) rfl rfl (by kernel_rfl) (by kernel_rfl) (by kernel_rfl) (fun _ _ _ h => h) (by rfl) ?_ hHeld ?_
        rotate_left
        · (intro w hSw; (try dsimp only at hSw); go_simp; try with_reducible rfl)
        simp only [Act.put, List.setIfInBounds_toArray, List.set_cons_zero, List.set_cons_succ]
        refine take_yes 10 59 (v := ?_) rfl rfl (by kernel_rfl) (by kernel_rfl) (by kernel_rfl) (fun _ _ _ h => h) (by rfl) ?_ hHeld ?_
        rotate_left
        · (intro w hSw; (try dsimp only at hSw); go_simp; try with_reducible rfl)
        simp only [Act.put, List.setIfInBounds_toArray, List.set_cons_zero, List.set_cons_succ]
        refine take_yes 11 60 (v := ?_) rfl rfl (by kernel_rfl) (by kernel_rfl) (by kernel_rfl) (fun _ _ _ h => h) (by rfl) ?_ hHeld ?_
        rotate_left
        · (intro w hSw; (try dsimp only at hSw); go_simp; try with_reducible rfl)
        simp only [Act.put, List.setIfInBounds_toArray, List.set_cons_zero, List.set_cons_succ]
        refine take_yes 12 61 (v := ?_) rfl rfl (by kernel_rfl) (by kernel_rfl) (by kernel_rfl) (fun _ _ _ h => h) (by rfl) ?_ hHeld ?_
        rotate_left
        · (intro w hSw; (try dsimp only at hSw); go_simp; try with_reducible rfl)
        simp only [Act.put, List.setIfInBounds_toArray, List.set_cons_zero, List.set_cons_succ]
        refine take_yes 13 62 (v := ?_) rfl rfl (by kernel_rfl) (by kernel_rfl) (by kernel_rfl) (fun _ _ _ h => h) (by rfl) ?_ hHeld ?_
        rotate_left
        · (intro w hSw; (try dsimp only at hSw); go_simp; try with_reducible rfl)
        simp only [Act.put, List.setIfInBounds_toArray, List.set_cons_zero, List.set_cons_succ]
        refine take_yes 14 63 (v := ?_) rfl rfl (by kernel_rfl) (by kernel_rfl) (by kernel_rfl) (fun _ _ _ h => h) (by rfl) ?_ hHeld ?_
        rotate_left
        · (intro w hSw; (try dsimp only at hSw); go_simp; try with_reducible rfl)
        simp only [Act.put, List.setIfInBounds_toArray, List.set_cons_zero, List.set_cons_succ]
        refine take_yes 15 64 (v := ?_) rfl rfl (by kernel_rfl) (by kernel_rfl) (by kernel_rfl) (fun _ _ _ h => h) (by rfl) ?_ hHeld ?_
        rotate_left
        · (intro w hSw; (try dsimp only at hSw); go_simp; try with_reducible rfl)
        simp only [Act.put, List.setIfInBounds_toArray, List.set_cons_zero, List.set_cons_succ]
        refine take_yes 16 65 (v := ?_) rfl rfl (by kernel_rfl) (by kernel_rfl) (by kernel_rfl) (fun _ _ _ h => h) (by rfl) ?_ hHeld ?_
        rotate_left
        · (intro w hSw; (try dsimp only at hSw); go_simp; try with_reducible rfl)
        simp only [Act.put, List.setIfInBounds_toArray, List.set_cons_zero, List.set_cons_succ]
        refine take_yes 17 66 (v := ?_) rfl rfl (by kernel_rfl) (by kernel_rfl) (by kernel_rfl) (fun _ _ _ h => h) (by rfl) ?_ hHeld ?_
        rotate_left
        · (intro w hSw; (try dsimp only at hSw); go_simp; try with_reducible rfl)
        simp only [Act.put, List.setIfInBounds_toArray, List.set_cons_zero, List.set_cons_succ]
        refine take_yes 18 67 (v := ?_) rfl rfl (by kernel_rfl) (by kernel_rfl) (by kernel_rfl) (fun _ _ _ h => h) (by rfl) ?_ hHeld ?_
        rotate_left
        · (intro w hSw; (try dsimp only at hSw); go_simp; try with_reducible rfl)
        simp only [Act.put, List.setIfInBounds_toArray, List.set_cons_zero, List.set_cons_succ]
        refine take_yes 19 68 (v := ?_) rfl rfl (by kernel_rfl) (by kernel_rfl) (by kernel_rfl) (fun _ _ _ h => h) (by rfl) ?_ hHeld ?_
        rotate_left
        · (intro w hSw; (try dsimp only at hSw); go_simp; try with_reducible rfl)
        simp only [Act.put, List.setIfInBounds_toArray, List.set_cons_zero, List.set_cons_succ]
        refine take_yes 20 69 (v := ?_) rfl rfl (by kernel_rfl) (by kernel_rfl) (by kernel_rfl) (fun _ _ _ h => h) (by rfl) ?_ hHeld ?_
        rotate_left
        · (intro w hSw; (try dsimp only at hSw); go_simp; try with_reducible rfl)
        simp only [Act.put, List.setIfInBounds_toArray, List.set_cons_zero, List.set_cons_succ]
        refine take_yes 21 70 (v := ?_) rfl rfl (by kernel_rfl) (by kernel_rfl) (by kernel_rfl) (fun _ _ _ h => h) (by rfl) ?_ hHeld ?_
        rotate_left
        · (intro w hSw; (try dsimp only at hSw); go_simp; try with_reducible rfl)
        simp only [Act.put, List.setIfInBounds_toArray, List.set_cons_zero, List.set_cons_succ]
        refine take_yes 22 71 (v := ?_) rfl rfl (by kernel_rfl) (by kernel_rfl) (by kernel_rfl) (fun _ _ _ h => h) (by rfl) ?_ hHeld ?_
        rotate_left
        · (intro w hSw; (try dsimp only at hSw); go_simp; try with_reducible rfl)
        simp only [Act.put, List.setIfInBounds_toArray, List.set_cons_zero, List.set_cons_succ]
        refine take_yes 23 72 (v := ?_) rfl rfl (by kernel_rfl) (by kernel_rfl) (by kernel_rfl) (fun _ _ _ h => h) (by rfl) ?_ hHeld ?_
        rotate_left
        · (intro w hSw; (try dsimp only at hSw); go_simp; try with_reducible rfl)
        simp only [Act.put, List.setIfInBounds_toArray, List.set_cons_zero, List.set_cons_succ]
        refine take_yes 24 73 (v := ?_) rfl rfl (by kernel_rfl) (by kernel_rfl) (by kernel_rfl) (fun _ _ _ h => h) (by rfl) ?_ hHeld ?_
        rotate_left
        · (intro w hSw; (try dsimp only at hSw); go_simp; try with_reducible rfl)
        simp only [Act.put, List.setIfInBounds_toArray, List.set_cons_zero, List.set_cons_succ]
        refine take_yes 25 74 (v := ?_) rfl rfl (by kernel_rfl) (by kernel_rfl) (by kernel_rfl) (fun _ _ _ h => h) (by rfl) ?_ hHeld ?_
        rotate_left
        · (intro w hSw; (try dsimp only at hSw); go_simp; try with_reducible rfl)
        simp only [Act.put, List.setIfInBounds_toArray, List.set_cons_zero, List.set_cons_succ]
        refine take_yes 26 75 (v := ?_) rfl rfl (by kernel_rfl) (by kernel_rfl) (by kernel_rfl) (fun _ _ _ h => h) (by rfl) ?_ hHeld ?_
        rotate_left
        · (intro w hSw; (try dsimp only at hSw); go_simp; try with_reducible rfl)
        simp only [Act.put, List.setIfInBounds_toArray, List.set_cons_zero, List.set_cons_succ]
        refine take_yes 27 76 (v := ?_) rfl rfl (by kernel_rfl) (by kernel_rfl) (by kernel_rfl) (fun _ _ _ h => h) (by rfl) ?_ hHeld ?_
        rotate_left
        · (intro w hSw; (try dsimp only at hSw); go_simp; try with_reducible rfl)
        simp only [Act.put, List.setIfInBounds_toArray, List.set_cons_zero, List.set_cons_succ]
        refine take_yes 28 77 (v := ?_) rfl rfl (by kernel_rfl) (by kernel_rfl) (by kernel_rfl) (fun _ _ _ h => h) (by rfl) ?_ hHeld ?_
        rotate_left
        · (intro w hSw; (try dsimp only at hSw); go_simp; try with_reducible rfl)
        simp only [Act.put, List.setIfInBounds_toArray, List.set_cons_zero, List.set_cons_succ]
        refine take_yes 29 78 (v := ?_) rfl rfl (by kernel_rfl) (by kernel_rfl) (by kernel_rfl) (fun _ _ _ h => h) (by rfl) ?_ hHeld ?_
        rotate_left
        · (intro w hSw; (try dsimp only at hSw); go_simp; try with_reducible rfl)
        simp only [Act.put, List.setIfInBounds_toArray, List.set_cons_zero, List.set_cons_succ]
        refine take_yes 30 79 (v := ?_) rfl rfl (by kernel_rfl) (by kernel_rfl) (by kernel_rfl) (fun _ _ _ h => h) (by rfl) ?_ hHeld ?_
        rotate_left
        · (intro w hSw; (try dsimp only at hSw); go_simp; try with_reducible rfl)
        simp only [Act.put, List.setIfInBounds_toArray, List.set_cons_zero, List.set_cons_succ]
        refine take_yes 31 80 (v := ?_) rfl rfl (by kernel_rfl) (by kernel_rfl) (by kernel_rfl) (fun _ _ _ h => h) (by rfl) ?_ hHeld ?_
        rotate_left
        · (intro w hSw; (try dsimp only at hSw); go_simp; try with_reducible rfl)
        simp only [Act.put, List.setIfInBounds_toArray, List.set_cons_zero, List.set_cons_succ]
        refine take_yes 32 81 (v := ?_) rfl rfl (by kernel_rfl) (by kernel_rfl) (by kernel_rfl) (fun _ _ _ h => h) (by rfl) ?_ hHeld ?_
        rotate_left
        · (intro w hSw; (try dsimp only at hSw); go_simp; try with_reducible rfl)
        simp only [Act.put, List.setIfInBounds_toArray, List.set_cons_zero, List.set_cons_succ]
        refine take_yes 33 82 (v := ?_) rfl rfl (by kernel_rfl) (by kernel_rfl) (by kernel_rfl) (fun _ _ _ h => h) (by rfl) ?_ hHeld ?_
        rotate_left
        · (intro w hSw; (try dsimp only at hSw); go_simp; try with_reducible rfl)
        simp only [Act.put, List.setIfInBounds_toArray, List.set_cons_zero, List.set_cons_succ]
        refine take_yes 34 83 (v := ?_) rfl rfl (by kernel_rfl) (by kernel_rfl) (by kernel_rfl) (fun _ _ _ h => h) (by rfl) ?_ hHeld ?_
        rotate_left
        · (intro w hSw; (try dsimp only at hSw); go_simp; try with_reducible rfl)
        simp only [Act.put, List.setIfInBounds_toArray, List.set_cons_zero, List.set_cons_succ]
        refine take_yes 35 84 (v := ?_) rfl rfl (by kernel_rfl) (by kernel_rfl) (by kernel_rfl) (fun _ _ _ h => h) (by rfl) ?_ hHeld ?_
        rotate_left
        · (intro w hSw; (try dsimp only at hSw); go_simp; try with_reducible rfl)
        simp only [Act.put, List.setIfInBounds_toArray, List.set_cons_zero, List.set_cons_succ]
        refine take_yes 36 85 (v := ?_) rfl rfl (by kernel_rfl) (by kernel_rfl) (by kernel_rfl) (fun _ _ _ h => h) (by rfl) ?_ hHeld ?_
        rotate_left
        · (intro w hSw; (try dsimp only at hSw); go_simp; try with_reducible rfl)
        simp only [Act.put, List.setIfInBounds_toArray, List.set_cons_zero, List.set_cons_succ]
        refine take_yes 37 86 (v := ?_) rfl rfl (by kernel_rfl) (by kernel_rfl) (by kernel_rfl) (fun _ _ _ h => h) (by rfl) ?_ hHeld ?_
        rotate_left
        · (intro w hSw; (try dsimp only at hSw); go_simp; try with_reducible rfl)
        simp only [Act.put, List.setIfInBounds_toArray, List.set_cons_zero, List.set_cons_succ]
        refine take_yes 38 87 (v := ?_) rfl rfl (by kernel_rfl) (by kernel_rfl) (by kernel_rfl) (fun _ _ _ h => h) (by rfl) ?_ hHeld ?_
        rotate_left
        · (intro w hSw; (try dsimp only at hSw); go_simp; try with_reducible rfl)
        simp only [Act.put, List.setIfInBounds_toArray, List.set_cons_zero, List.set_cons_succ]
        refine take_yes 39 88 (v := ?_) rfl rfl (by kernel_rfl) (by kernel_rfl) (by kernel_rfl) (fun _ _ _ h => h) (by rfl) ?_ hHeld ?_
        rotate_left
        · (intro w hSw; (try dsimp only at hSw); go_simp; try with_reducible rfl)
        simp only [Act.put, List.setIfInBounds_toArray, List.set_cons_zero, List.set_cons_succ]
        refine take_yes 40 89 (v := ?_) rfl rfl (by kernel_rfl) (by kernel_rfl) (by kernel_rfl) (fun _ _ _ h => h) (by rfl) ?_ hHeld ?_
        rotate_left
        · (intro w hSw; (try dsimp only at hSw); go_simp; try with_reducible rfl)
        simp only [Act.put, List.setIfInBounds_toArray, List.set_cons_zero, List.set_cons_succ]
        refine take_yes 41 90 (v := ?_) rfl rfl (by kernel_rfl) (by kernel_rfl) (by kernel_rfl) (fun _ _ _ h => h) (by rfl) ?_ hHeld ?_
        rotate_left
        · (intro w hSw; (try dsimp only at hSw); go_simp; try with_reducible rfl)
        simp only [Act.put, List.setIfInBounds_toArray, List.set_cons_zero, List.set_cons_succ]
        refine take_yes 42 91 (v := ?_) rfl rfl (by kernel_rfl) (by kernel_rfl) (by kernel_rfl) (fun _ _ _ h => h) (by rfl) ?_ hHeld ?_
        rotate_left
        · (intro w hSw; (try dsimp only at hSw); go_simp; try with_reducible rfl)
        simp only [Act.put, List.setIfInBounds_toArray, List.set_cons_zero, List.set_cons_succ]
        refine wpAnyH_ready (rs := [43]) (by kernel_rfl) (by simp) (AllReadyH.cons rfl (fun K hK => ?_) AllReadyH.nil)
        go_simp
        (go_at_call 19; refine (HBk.out _).mono ?_; rintro e wn ⟨rfl, hwn⟩; obtain rfl := hwn.symm)
        (try go_wp2_with fail)
        refine hK.out _ _ (by with_reducible exact hk) (fun hHeldN => ?_)
        clear hHeld hK K
        have hHeld := hHeldN
        clear hHeldN
        refine take_yes 44 93 (v := ?_) rfl rfl (by kernel_rfl) (by kernel_rfl) (by kernel_rfl) (fun _ _ _ h => h) (by rfl) ?_ hHeld ?_
        rotate_left
        · (intro w hSw; (try dsimp only at hSw); go_simp; try with_reducible rfl)
        simp only [Act.put, List.setIfInBounds_toArray, List.set_cons_zero, List.set_cons_succ]
        refine take_yes 45 94 (v := ?_) rfl rfl (by kernel_rfl) (by kernel_rfl) (by kernel_rfl) (fun _ _ _ h => h) (by rfl) ?_ hHeld ?_
        rotate_left
        · (intro w hSw; (try dsimp only at hSw); go_simp; try with_reducible rfl)
        simp only [Act.put, List.setIfInBounds_toArray, List.set_cons_zero, List.set_cons_succ]
        refine wpAnyH_done (by kernel_rfl) ?_ _
        clear hk
        go_wp2
        go_roundw
        case rel => exact ⟨k + 1, pq, by omega, by go_num, rfl, HP6.out, HGW.out.drew⟩
        case measure => simp [intOf]; omega
      · obtain rfl : k = T.length := by omega
        rw [List.drop_length] at hp
        have hae : a = s.size := by rw [← hl]; exact hp
        subst hae
        clear hp hg
        go_wp2_with fail
        refine (HCk.out ad1 cap1 _ (HT1.out.gr HG.out) hcp1).mono ?_
        rintro e w3 ⟨rfl, hg3⟩
        go_wp2_with fail
        refine (H3.out _).mono ?_
        rintro e w4 ⟨rfl, hg4⟩
        go_wp2
        go_ret
        exact ⟨rfl, ((HG1.out.trans HG.out).trans hg3).trans hg4⟩

set_option maxRecDepth 100000 in
theorem lexicPlaces_lifted (os : Os) (started : os.Started) (H : Type) (enc : TypeId × Value → H) :
    ReturnsInHanded {} Try.checked os 7 .any (Rows.lexicPlacesSpec.pre6 enc Try.prog Try.f7 Rows.lexicPlacesRow.domain false) (Rows.lexicPlacesSpec.post enc Try.prog Try.f7 false true false false) := by
  refine returnsInHanded_of_change (C := Try.checked) own2 started (by kernel_rfl) Try.func7
    (ChangeSpec.witness6 (enc := enc) (C := Try.checked) false ⟨#[], #[.string ⟨#[]⟩], []⟩ 8 (by kernel_rfl) (by kernel_rfl) (by kernel_rfl) (by kernel_rfl)) ?_
  intro W base args ds gs before hval0 hW hcnd _
  have hval : ∀ (j : Nat) t v, Try.f7.params[j]? = some t → args[j]? = some v → Value.okWide Try.prog W .any base t v := hval0
  have hW' := hW
  obtain ⟨p, q, hA0, hV, rfl, hfz, hnd⟩ := hW
  have hA : DataW.TrodAll enc Try.prog W 0 (fun _ => true) true Try.f7.params.toList args.toList ds p := hA0
  rw [Try.params7] at hA hval
  obtain ⟨v0, d0, rfl, rfl, q0⟩ := trodAll_one hA
  obtain ⟨rfl, rfl⟩ := trodVars_none hV
  obtain ⟨a0, rfl, rfl, rfl, wa0⟩ := open_string Try.underlying9 (hval 0 9 v0 rfl rfl) q0
  clear hA0 hval0
  refine (lexicPlaces_walk a0 W (len_max wa0)).mono fun e W' ⟨he, hg⟩ => ?_
  subst he
  exact ⟨_, rfl, _, _, _, [], _, [], hW', trodAll_mk1 (shut_bool Try.underlying4 _), trodAll_mk1 (shut_string Try.underlying9 wa0), rfl, hg.below.frame _, fun h => by cases h⟩

theorem lexicPlaces_holds : Rows.LexicPlacesSaid :=
  OpenClaim.holds_of_wide 7 Try.f7 rfl rfl rfl rfl rfl rfl rfl ⟨rfl, rfl, rfl, rfl, rfl⟩ rfl rfl rfl rfl rfl (by kernel_rfl) Try.func7 (by kernel_rfl)
    (of_decide_eq_true (by kernel_rfl)) (by unfold Func.isWrapper; first | (rw [if_pos (by decide +kernel)]; kernel_rfl) | (rw [if_neg (by decide +kernel)]; exact ⟨rfl, rfl⟩))
    (fun os started H enc _ => lexicPlaces_lifted os started H enc)
end Go.Proofs.Ytdlcmbbaicoicaa
