/- Parts of these proofs, laid together. -/
import Derived.Test.YthaadiclopoamaaGreatDoorGZ
import Derived.Test.YthaadiclopoamaaGreatDoorGV
import Derived.Test.YthaadiclopoamaaGreatDoorRows
import Derived.Test.YthaadiclopoamaaGreatDoorTie
import Derived.Test.YthaadiclopoamaaGreatDoorCards
import Derived.ProofKit
import Derived.LaidMore
import Derived.OpenShut
import Derived.Stop.Joined
import Derived.Stop.LaidErr
import Derived.Lib.LaidTab
import Derived.ShutString
import Derived.SizedLaws
/- The law's few and awake. -/
set_option maxRecDepth 100000
set_option maxHeartbeats 8000000
namespace Go.Proofs.YthaadiclopoamaaGreatDoor
open Go.RowKit
open Df (Stp)

/- what the walks ask of memory -/
structure EnvR (w : World) : Prop where
 env : Env w
 frm : Forms w
theorem EnvR.gr {w w' : World} (h : EnvR w) (g : Gr w w') : EnvR w' := ⟨h.env.gr g, h.frm.gr g⟩

def fewB (x : Rc) : Bool := decide (x.m.L.length <= 200) && decide (x.m.S.length <= 200) && decide (x.S.length <= 200)
theorem leb (n : Nat) : decide ((n : Int) <= 200) = decide (n <= 200) := decide_eq_decide.2 (by omega)
theorem few_any (k mk r n : Int) (L : List (Int × Int)) (s y : Int) (md : ByteArray) (T : List Stp) (a : ByteArray) (v : Int) (d : ByteArray) (S : List Stp) (t : ByteArray) (a1 : Option Addr) (e1 : Nat) (a2 : Option Addr) (e2 : Nat) (a3 : Option Addr) (e3 : Nat) (w : World) :
  Calls Tryz.prog 8 #[.agg #[.int .i64 k, .int .i64 mk, .int .i64 r, .int .i64 n, .slice a1 L.length e1, .int .i64 s, .int .i64 y, .string md, .slice a2 T.length e2, .string a, .int .i64 v, .string d, .slice a3 S.length e3, .string t]] w fun e w' => e = .returned (.bool (fewB ⟨k, ⟨mk, r, n, L, s, y, md, T⟩, a, v, d, S, t⟩)) /\ Gr w w' := by
 unfold fewB
 simp only
 rw [<- leb, <- leb, <- leb]
 by_cases h1 : (L.length : Int) <= 200
 case neg =>
  rw [decide_eq_false h1]
  go_enter Tryz.func8, Tryz.ntmps8
  go_wp2
  go_ret
  exact ⟨rfl, (by repeat(first|exact Gr.r _|refine Gr.a ?_|refine Gr.d ?_|refine Gr.t ?_ (by assumption)))⟩
 rw [decide_eq_true h1]
 by_cases h2 : (T.length : Int) <= 200
 case neg =>
  rw [decide_eq_false h2]
  go_enter Tryz.func8, Tryz.ntmps8
  go_wp2
  go_ret
  exact ⟨rfl, (by repeat(first|exact Gr.r _|refine Gr.a ?_|refine Gr.d ?_|refine Gr.t ?_ (by assumption)))⟩
 rw [decide_eq_true h2]
 by_cases h3 : (S.length : Int) <= 200
 ·rw [decide_eq_true h3]
  go_enter Tryz.func8, Tryz.ntmps8
  go_wp2
  go_ret
  exact ⟨rfl, (by repeat(first|exact Gr.r _|refine Gr.a ?_|refine Gr.d ?_|refine Gr.t ?_ (by assumption)))⟩
 ·rw [decide_eq_false h3]
  go_enter Tryz.func8, Tryz.ntmps8
  go_wp2
  go_ret
  exact ⟨rfl, (by repeat(first|exact Gr.r _|refine Gr.a ?_|refine Gr.d ?_|refine Gr.t ?_ (by assumption)))⟩

def m0 : Mv := ⟨4, 0, 7, [], 2, 0, ⟨#[]⟩, []⟩
def x0 : Rc := ⟨1, m0, ⟨#[]⟩, 0, ⟨#[]⟩, [], ⟨#[]⟩⟩
def x4 : Rc := ⟨4, Rc.zM, ⟨#[]⟩, 0, ⟨#[]⟩, [], ⟨#[]⟩⟩
theorem m0_may : Rc.mvB m0 = true := by decide
theorem x0_may : Rc.rcB x0 = true := by decide
theorem x4_may : Rc.rcB x4 = true := by decide
theorem m0_shown : Rc.shL m0 = [100, 111, 32, 48, 46, 55, 32, 50] := by
 unfold Rc.shL
 rw [if_pos m0_may]
 unfold Rc.shB
 have h7 : Lib.decDigits 7 = [55] := by unfold Lib.decDigits; rfl
 have h0 : Lib.decDigits 0 = [48] := by unfold Lib.decDigits; rfl
 have h2 : Lib.decDigits 2 = [50] := by unfold Lib.decDigits; rfl
 simp [m0, Rc.wordL, Rc.stK, Rc.wyK, Idn.showT, h7, h0, h2]
theorem x4_laid : Rc.encL x4 = [4] := by
 unfold Rc.encL
 rw [if_pos x4_may]; rfl
theorem none_read : Rc.dcE [] = 140 := by decide
theorem none_rec : Rc.dcR [] = Rc.zR := Rc.dec_zero (by rw [none_read]; decide)
theorem zM_not : Rc.mvE Rc.zM = 140 := by decide
theorem zR_not : Rc.rcE Rc.zR = 140 := by decide
theorem mv_none (w : World) (k r n s y : Int) : MvIn w ⟨k, r, n, [], s, y, ⟨#[]⟩, []⟩ none 0 none 0 := ⟨HopsAt.nil, RowAt.nil, by simp, by simp, Nat.le_trans z16 (by decide), by simp⟩
theorem rc_none (w : World) (c k r n s y : Int) : RcIn w ⟨c, ⟨k, r, n, [], s, y, ⟨#[]⟩, []⟩, ⟨#[]⟩, 0, ⟨#[]⟩, [], ⟨#[]⟩⟩ none 0 none 0 none 0 := ⟨mv_none w k r n s y, RowAt.nil, by simp, Nat.le_trans z16 (by decide), by simp, Nat.le_trans z16 (by decide), Nat.le_trans z16 (by decide)⟩

theorem awake_any (w : World) (he : EnvR w) : Calls Tryz.prog 9 #[] w fun e w' => e = .returned (.bool true) /\ Gr w w' := by
 have H1 : Hid (∀ w', Gr w w' -> Calls Tryz.prog 10 #[.agg #[.int .i64 4, .int .i64 0, .int .i64 7, .slice none 0 0, .int .i64 2, .int .i64 0, .string ⟨#[]⟩, .slice none 0 0]] w' fun e w2 => e = .returned (.tuple #[.string ⟨#[100, 111, 32, 48, 46, 55, 32, 50]⟩, .int .i64 0]) /\ Gr w' w2) := by
  intro w' g
  have := showR_any 4 0 7 [] 2 0 ⟨#[]⟩ [] none 0 none 0 w' (mv_none w' 4 0 7 2 0) (he.frm.gr g) (he.env.gr g)
  rw [show (⟨4, 0, 7, [], 2, 0, ⟨#[]⟩, []⟩ : Mv) = m0 from rfl, m0_shown, show Rc.mvE m0 = 0 from by unfold Rc.mvE; rw [if_pos m0_may]] at this
  exact this
 have H2 : Hid (∀ w', Gr w w' -> Calls Tryz.prog 16 #[.agg #[.int .i64 1, .int .i64 4, .int .i64 0, .int .i64 7, .slice none 0 0, .int .i64 2, .int .i64 0, .string ⟨#[]⟩, .slice none 0 0, .string ⟨#[]⟩, .int .i64 0, .string ⟨#[]⟩, .slice none 0 0, .string ⟨#[]⟩]] w' fun e w2 => e = .returned (.tuple #[.string ⟨(Rc.encL x0).toArray⟩, .int .i64 0]) /\ Gr w' w2) := by
  intro w' g
  have := encR_any 1 4 0 7 [] 2 0 ⟨#[]⟩ [] ⟨#[]⟩ 0 ⟨#[]⟩ [] ⟨#[]⟩ none 0 none 0 none 0 w' (rc_none w' 1 4 0 7 2 0) (he.frm.gr g) (he.env.gr g)
  rw [show (⟨1, ⟨4, 0, 7, [], 2, 0, ⟨#[]⟩, []⟩, ⟨#[]⟩, 0, ⟨#[]⟩, [], ⟨#[]⟩⟩ : Rc) = x0 from rfl, show Rc.rcE x0 = 0 from by unfold Rc.rcE; rw [if_pos x0_may]] at this
  exact this
 have hl : (Rc.encL x0).length <= 30000 := by unfold Rc.encL; rw [if_pos x0_may]; exact Rc.bd_len x0_may
 have H3 : Hid (∀ w', Gr w w' -> Calls Tryz.prog 18 #[.string ⟨(Rc.encL x0).toArray⟩] w' fun e w2 => ∃ a1 c1 a2 c2 a3 c3, e = .returned (.tuple #[.agg #[.int .i64 1, .int .i64 4, .int .i64 0, .int .i64 7, .slice a1 0 c1, .int .i64 2, .int .i64 0, .string ⟨#[]⟩, .slice a2 0 c2, .string ⟨#[]⟩, .int .i64 0, .string ⟨#[]⟩, .slice a3 0 c3, .string ⟨#[]⟩], .int .i64 0]) /\ Gr w' w2) := by
  intro w' g
  have := decR_any ⟨(Rc.encL x0).toArray⟩ w' (by simp [ByteArray.size]; omega) (he.frm.gr g) (he.env.gr g)
  rw [show (⟨(Rc.encL x0).toArray⟩ : ByteArray).data.toList = Rc.encL x0 from rfl, (Rc.dec_enc x0_may).1, (Rc.dec_enc x0_may).2] at this
  exact this.mono fun _ _ ⟨a1, c1, a2, c2, a3, c3, q, _, g⟩ => ⟨a1, c1, a2, c2, a3, c3, q, g⟩
 have H4 : Hid (∀ w', Gr w w' -> Calls Tryz.prog 16 #[.agg #[.int .i64 4, .int .i64 0, .int .i64 0, .int .i64 0, .slice none 0 0, .int .i64 0, .int .i64 0, .string ⟨#[]⟩, .slice none 0 0, .string ⟨#[]⟩, .int .i64 0, .string ⟨#[]⟩, .slice none 0 0, .string ⟨#[]⟩]] w' fun e w2 => e = .returned (.tuple #[.string ⟨#[4]⟩, .int .i64 0]) /\ Gr w' w2) := by
  intro w' g
  have := encR_any 4 0 0 0 [] 0 0 ⟨#[]⟩ [] ⟨#[]⟩ 0 ⟨#[]⟩ [] ⟨#[]⟩ none 0 none 0 none 0 w' (rc_none w' 4 0 0 0 0 0) (he.frm.gr g) (he.env.gr g)
  rw [show (⟨4, ⟨0, 0, 0, [], 0, 0, ⟨#[]⟩, []⟩, ⟨#[]⟩, 0, ⟨#[]⟩, [], ⟨#[]⟩⟩ : Rc) = x4 from rfl, x4_laid, show Rc.rcE x4 = 0 from by unfold Rc.rcE; rw [if_pos x4_may]] at this
  exact this
 have H5 : Hid (∀ w', Gr w w' -> Calls Tryz.prog 18 #[.string ⟨#[]⟩] w' fun e w2 => ∃ a1 c1 a2 c2 a3 c3, e = .returned (.tuple #[.agg #[.int .i64 0, .int .i64 0, .int .i64 0, .int .i64 0, .slice a1 0 c1, .int .i64 0, .int .i64 0, .string ⟨#[]⟩, .slice a2 0 c2, .string ⟨#[]⟩, .int .i64 0, .string ⟨#[]⟩, .slice a3 0 c3, .string ⟨#[]⟩], .int .i64 140]) /\ Gr w' w2) := by
  intro w' g
  have := decR_any ⟨#[]⟩ w' (by decide) (he.frm.gr g) (he.env.gr g)
  rw [show (⟨#[]⟩ : ByteArray).data.toList = [] from rfl, none_read, none_rec] at this
  exact this.mono fun _ _ ⟨a1, c1, a2, c2, a3, c3, q, _, g⟩ => ⟨a1, c1, a2, c2, a3, c3, q, g⟩
 have H6 : Hid (∀ w', Gr w w' -> Calls Tryz.prog 12 #[.agg #[.int .i64 0, .int .i64 0, .int .i64 0, .slice none 0 0, .int .i64 0, .int .i64 0, .string ⟨#[]⟩, .slice none 0 0]] w' fun e w2 => e = .returned (.int .i64 140) /\ Gr w' w2) := by
  intro w' g
  have := move_any 0 0 0 [] 0 0 ⟨#[]⟩ [] none 0 none 0 w' (mv_none w' 0 0 0 0 0) (he.frm.gr g)
  rw [show (⟨0, 0, 0, [], 0, 0, ⟨#[]⟩, []⟩ : Mv) = Rc.zM from rfl, zM_not] at this
  exact this
 have H7 : Hid (∀ w', Gr w w' -> Calls Tryz.prog 14 #[.agg #[.int .i64 0, .int .i64 0, .int .i64 0, .int .i64 0, .slice none 0 0, .int .i64 0, .int .i64 0, .string ⟨#[]⟩, .slice none 0 0, .string ⟨#[]⟩, .int .i64 0, .string ⟨#[]⟩, .slice none 0 0, .string ⟨#[]⟩]] w' fun e w2 => e = .returned (.int .i64 140) /\ Gr w' w2) := by
  intro w' g
  have := rCheck_any 0 0 0 0 [] 0 0 ⟨#[]⟩ [] ⟨#[]⟩ 0 ⟨#[]⟩ [] ⟨#[]⟩ none 0 none 0 none 0 w' (rc_none w' 0 0 0 0 0 0) (he.frm.gr g)
  rw [show (⟨0, ⟨0, 0, 0, [], 0, 0, ⟨#[]⟩, []⟩, ⟨#[]⟩, 0, ⟨#[]⟩, [], ⟨#[]⟩⟩ : Rc) = Rc.zR from rfl, zR_not] at this
  exact this
 generalize Rc.encL x0 = b0 at *
 clear he hl
 go_enter Tryz.func9, Tryz.ntmps9
 go_wp2_with fail
 refine (H1.out _ ?_).mono ?_
 ·exact (by repeat(first|exact Gr.r _|refine Gr.a ?_|refine Gr.d ?_|refine Gr.t ?_ (by assumption)))
 rintro e1 w1 ⟨rfl, hg1⟩
 have G1 : Gr w w1 := (by repeat(first|exact Gr.r _|refine Gr.a ?_|refine Gr.d ?_|refine Gr.t ?_ (by assumption)))
 have B1 : Cs w1 w.heap.size [.int .i64 4, .int .i64 0, .int .i64 7, .slice none 0 0, .int .i64 2, .int .i64 0, .string ⟨#[]⟩, .slice none 0 0] := (Cs.new w [.int .i64 4, .int .i64 0, .int .i64 7, .slice none 0 0, .int .i64 2, .int .i64 0, .string ⟨#[]⟩, .slice none 0 0] 29 _ rfl).gr hg1
 clear hg1
 obtain ⟨m0', m1', m2', m3', m4', m5', m6', m7', mlt⟩ := B1.c8
 go_wp2_with fail
 refine (H2.out _ G1).mono ?_
 rintro e2 w2 ⟨rfl, hg2⟩
 have G2 : Gr w w2 := G1.trans hg2
 clear hg2 m0' m1' m2' m3' m4' m5' m6' m7' mlt B1
 go_wp2_with fail
 refine (H3.out _ G2).mono ?_
 rintro e3 w3 ⟨a1, c1, a2, c2, a3, c3, rfl, hg3⟩
 have G3 : Gr w w3 := G2.trans hg3
 clear hg3
 go_wp2_with fail
 refine (H4.out _ G3.alloc).mono ?_
 rintro e4 w4 ⟨rfl, hg4⟩
 have G4 : Gr w w4 := G3.alloc.trans hg4
 have B4 : Cs w4 w3.heap.size [.int .i64 1, .int .i64 4, .int .i64 0, .int .i64 7, .slice a1 0 c1, .int .i64 2, .int .i64 0, .string ⟨#[]⟩, .slice a2 0 c2, .string ⟨#[]⟩, .int .i64 0, .string ⟨#[]⟩, .slice a3 0 c3, .string ⟨#[]⟩] := (Cs.new w3 [.int .i64 1, .int .i64 4, .int .i64 0, .int .i64 7, .slice a1 0 c1, .int .i64 2, .int .i64 0, .string ⟨#[]⟩, .slice a2 0 c2, .string ⟨#[]⟩, .int .i64 0, .string ⟨#[]⟩, .slice a3 0 c3, .string ⟨#[]⟩] 31 _ rfl).gr hg4
 clear hg4
 go_wp2_with fail
 refine (H5.out _ G4).mono ?_
 rintro e5 w5 ⟨p1, q1, p2, q2, p3, q3, rfl, hg5⟩
 have G5 : Gr w w5 := G4.trans hg5
 have B5 := B4.gr hg5
 clear hg5 B4
 obtain ⟨n0, n1, n2, n3, n4, n5, n6, n7, n8, n9, n10, n11, n12, n13, nlt⟩ := B5.c14
 go_wp2_with fail
 refine (H6.out _ G5.alloc).mono ?_
 rintro e6 w6 ⟨rfl, hg6⟩
 have G6 : Gr w w6 := G5.alloc.trans hg6
 go_wp2_with fail
 refine (H7.out _ G6).mono ?_
 rintro e7 w7 ⟨rfl, hg7⟩
 go_wp2
 go_ret
 exact ⟨rfl, G6.trans hg7⟩
end Go.Proofs.YthaadiclopoamaaGreatDoor
/- The listed variables, opened: what the walks ask of memory; and a start that meets the rows' condition. -/
set_option maxRecDepth 100000
set_option maxHeartbeats 8000000
namespace Go.Proofs.YthaadiclopoamaaGreatDoor
open Go.ChangeShapes Go.WideShapes Go.ChangeAt Go.RowKit

abbrev laidL : List (String × DataW Unit) := [("math/bits.deBruijn32tab", Rows.laid_math_bits_deBruijn32tab), ("math/bits.deBruijn64tab", Rows.laid_math_bits_deBruijn64tab), ("internal/strconv.uint64pow10", Rows.laid_internal_strconv_uint64pow10), ("strconv.ErrRange", Rows.laid_strconv_ErrRange), ("strconv.ErrSyntax", Rows.laid_strconv_ErrSyntax), ("entente/record.forms", Rows.laid_entente_record_forms)]
theorem own2 : ownKnob Tryz.prog.godebug = none := by kernel_rfl
theorem laidOut2 : laidOutB Tryz.prog = true := by kernel_rfl
theorem door_met (os : Os) (args : Array Value) : laidMetH Tryz.prog laidL ((World.doorLaid Tryz.prog 400 os).forCall (fun _ _ => 0) ⟨#[], args, []⟩).memory :=
 laidMetH_of_parts3 (fuel := 8) (laidMet_of_run' 8 (by kernel_rfl) (by kernel_rfl)) (by kernel_rfl) (by kernel_rfl)
theorem star : "*errors.errorString" = "*" ++ "errors.errorString" := by decide
theorem rowE (u : TypeId) (h : Tryz.prog.typeName? 3 u = some "*errors.errorString") : u = 243 :=
 typeName_ptr_named (nm := "errors.errorString") (by rw [<- star]; kernel_rfl) (by kernel_rfl) (by decide) u (by rw [<- star]; exact h)

/- a form that reads as listed -/
theorem form_of {H : Type} {enc : TypeId × Value -> H} {w : World} {base : Nat} {sp : Nat -> Bool} {held : Bool} {fuel : Nat} {cs : List Value} {z : List UInt8} {b1 b2 b3 : Bool} {n : Int} {p : List MemPlace} (hl : cs.length = 5)
  (h : DataW.trod enc Tryz.prog w base sp held fuel 53 cs = some (.agg [.lit (.string z), .lit (.bool b1), .lit (.bool b2), .lit (.bool b3), .lit (.int .i64 n)], p)) : cs = [.string ⟨z.toArray⟩, .bool b1, .bool b2, .bool b3, .int .i64 n] := by
 obtain ⟨xs, m, _, hx, _, hlen, hf⟩ := DataW.trod_struct Tryz.underlying53 h
 have k0 : Tryz.prog.cellsOf 3 = 1 := by kernel_rfl
 have k1 : Tryz.prog.cellsOf 9 = 1 := by kernel_rfl
 have k2 : Tryz.prog.cellsOf 4 = 1 := by kernel_rfl
 match cs, hl with
 | [c0, c1, c2, c3, c4], _ =>
  match xs, hlen with
  | [y0, y1, y2, y3, y4], _ =>
   have t0 := hf 0 _ rfl
   have t1 := hf 1 _ rfl
   have t2 := hf 2 _ rfl
   have t3 := hf 3 _ rfl
   have t4 := hf 4 _ rfl
   simp [k0, k1, k2] at t0 t1 t2 t3 t4
   obtain ⟨s0, e0, f0, _⟩ := DataW.trod_string Tryz.underlying9 t0
   obtain ⟨s1, e1, f1⟩ := DataW.trod_bool Tryz.underlying4 t1
   obtain ⟨s2, e2, f2⟩ := DataW.trod_bool Tryz.underlying4 t2
   obtain ⟨s3, e3, f3⟩ := DataW.trod_bool Tryz.underlying4 t3
   obtain ⟨s4, e4, f4, _⟩ := DataW.trod_int Tryz.underlying3 t4
   have hd := congrArg Prod.fst hx
   simp only [List.map_cons, List.map_nil, DataW.agg.injEq, List.cons.injEq, and_true] at hd
   obtain ⟨d0, d1, d2, d3, d4⟩ := hd
   rw [f0] at d0; rw [f1] at d1; rw [f2] at d2; rw [f3] at d3; rw [f4] at d4
   simp only [DataW.lit.injEq, Lit.string.injEq, Lit.bool.injEq, Lit.int.injEq, true_and] at d0 d1 d2 d3 d4
   subst d0 d1 d2 d3 d4
   simp at e0 e1 e2 e3 e4
   rw [e0, e1, e2, e3, e4]

def frD {H : Type} (j : Nat) : DataW H := .agg [.lit (.string (Rc.wordL ((j : Int) + 1))), .lit (.bool (decide ((j : Int) + 1 = 2))), .lit (.bool (decide ((j : Int) + 1 = 1))), .lit (.bool (Rc.wyK ((j : Int) + 1))), .lit (.int .i64 (Rc.stK ((j : Int) + 1)))]
theorem forms_listed {H : Type} : (Rows.laid_entente_record_forms : DataW H) = .agg ((List.range 16).map frD) := rfl
theorem forms_of_tab {H : Type} {enc : TypeId × Value -> H} {w : World} {base : Nat} {sp : Nat -> Bool} {held : Bool} {fuel : Nat} {cs : List Value} {p : List MemPlace}
  (h : DataW.trod enc Tryz.prog w base sp held fuel 82 cs = some (.agg ((List.range 16).map frD), p)) (j : Nat) (hj : j < 16) (i : Nat) (v : Value) (hv : (frC ((j : Int) + 1))[i]? = some v) : cs[j * 5 + i]? = some v := by
 obtain ⟨xs, m, _, hx, hl, hxl, hf⟩ := DataW.trod_array Tryz.underlying82 h
 have k5 : Tryz.prog.cellsOf 53 = 5 := by kernel_rfl
 have k80 : Tryz.prog.cellsOf 82 = 80 := by kernel_rfl
 rw [k80] at hl
 have hxs : xs.map (·.1) = (List.range 16).map (frD (H := H)) := by
  have := congrArg Prod.fst hx
  simpa using this.symm
 have hfi := hf j hj
 obtain ⟨y, hy⟩ : ∃ y, xs[j]? = some y := ⟨xs[j]'(by omega), List.getElem?_eq_getElem _⟩
 rw [hy, k5] at hfi
 have h2 : (xs.map (·.1))[j]? = some y.1 := by simp [hy]
 rw [hxs, List.getElem?_map, List.getElem?_range hj] at h2
 simp only [Option.map_some, Option.some.injEq] at h2
 obtain ⟨y1, y2⟩ := y
 simp only at h2
 subst h2
 have hc := form_of (by simp; omega) hfi
 have hi : i < 5 := by
  rcases Nat.lt_or_ge i 5 with q | q
  ·exact q
  ·rw [List.getElem?_eq_none (by simpa [frC] using q)] at hv; cases hv
 have h3 : ((cs.drop (j * 5)).take 5)[i]? = some v := by rw [hc]; exact hv
 rw [List.getElem?_take, if_pos hi, List.getElem?_drop] at h3
 exact h3

theorem env_of_laid {W : World} (h : laidMetH Tryz.prog laidL W) : EnvR W := by
 rw [MakeChecks.laidMetH_plain _ _ _ (by kernel_rfl)] at h
 have h3 := h.tail.tail
 have h4 := h3.tail
 have h5 := h4.tail
 have h6 := h5.tail
 have hT := Lib.tabIs_of_head (zs := Lib.pow10Tab) (k := .u64) (by kernel_rfl : Tryz.prog.globalNamed "internal/strconv.uint64pow10" = some 1) (by kernel_rfl : (Tryz.prog.globals[1]?).map (·.type) = some 174) Tryz.underlying174 Tryz.underlying99 (by kernel_rfl) (by kernel_rfl) h3
 obtain ⟨a4, _, v4, _⟩ := laid_sentinel h4 (by kernel_rfl : Tryz.prog.globalNamed "strconv.ErrRange" = some 6) (by kernel_rfl : (Tryz.prog.globals[6]?).map (·.type) = some 155) Tryz.underlying155 rowE Tryz.underlying243 Tryz.underlying245 rfl rfl Tryz.underlying9 (by kernel_rfl) (by kernel_rfl)
 obtain ⟨a5, _, v5, _⟩ := laid_sentinel h5 (by kernel_rfl : Tryz.prog.globalNamed "strconv.ErrSyntax" = some 5) (by kernel_rfl : (Tryz.prog.globals[5]?).map (·.type) = some 155) Tryz.underlying155 rowE Tryz.underlying243 Tryz.underlying245 rfl rfl Tryz.underlying9 (by kernel_rfl) (by kernel_rfl)
 refine ⟨⟨hT, ⟨243, .pointer (some a5), ?_⟩, ⟨243, .pointer (some a4), ?_⟩⟩, ?_⟩
 ·exact World.var?_cell (by kernel_rfl : Tryz.prog.globalNamed "strconv.ErrSyntax" = some 5) v5 0
 ·exact World.var?_cell (by kernel_rfl : Tryz.prog.globalNamed "strconv.ErrRange" = some 6) v4 0
 ·intro j hj i v hv
  obtain ⟨ps, ⟨g', t', cs, fuel, p, q, hg', ht', hvar, hd, _, _⟩, _⟩ := h6
  have gK : Tryz.prog.globalNamed "entente/record.forms" = some 0 := by kernel_rfl
  obtain rfl := Option.some.inj (gK.symm.trans hg')
  obtain rfl := Option.some.inj ((by kernel_rfl : (Tryz.prog.globals[0]?).map (·.type) = some 82).symm.trans ht')
  rw [forms_listed] at hd
  have hc := forms_of_tab hd j hj i v hv
  have hw := World.var?_cell gK hvar (j * 5 + i)
  rw [hw]
  simpa using hc
end Go.Proofs.YthaadiclopoamaaGreatDoor
