/- Acts of a log as they come in, opened. -/
import Derived.Test.YtojmhhmpmpbpfaaGreatDoorRows
import Derived.Test.YtojmhhmpmpbpfaaGreatDoorGBF
namespace Go.Proofs.YtojmhhmpmpbpfaaGreatDoor
open Go.ChangeShapes Go.WideShapes Go.ChangeAt Go.RowKit
open Dk (Fl)

structure Aw where
  k : Int
  d : ByteArray
  z : Int
  ka : Option Addr
  kc : Nat
  K : List Int
def awf (x : Aw) : List Value := [.int .i64 x.k, .string x.d, .int .i64 x.z, .slice x.ka x.K.length x.kc]
theorem awf_len (x : Aw) : (awf x).length = 4 := rfl
structure AwIn (w : World) (x : Aw) : Prop where
  z1 : x.z ≤ 9223372036854775807
  ds : x.d.size ≤ 9223372036854775807
  kl : x.K.length ≤ 9223372036854775807
  row : KAt w x.ka x.kc x.K
structure Awts (w : World) (ad : Option Addr) (T : List Aw) : Prop where
  row : RowAt awf w ad T
  len : T.length ≤ 9223372036854775807
  each : ∀ x ∈ T, AwIn w x
theorem trod_struct4w {P : Program} {H : Type} {enc : TypeId × Value → H} {w : World} {base : Nat} {spare : Nat → Bool} {held : Bool} {t : TypeId} {f0 f1 f2 f3 : Field} {fuel : Nat} {cs : List Value} {x : DataW H × List MemPlace} (ht : P.underlying t = some (.struct #[f0, f1, f2, f3])) (h : DataW.trod enc P w base spare held fuel t cs = some x) :
    ∃ y0 y1 y2 y3 n, DataW.trod enc P w base spare held n f0.type ((cs.drop f0.offset).take (P.cellsOf f0.type)) = some y0 ∧
      DataW.trod enc P w base spare held n f1.type ((cs.drop f1.offset).take (P.cellsOf f1.type)) = some y1 ∧ DataW.trod enc P w base spare held n f2.type ((cs.drop f2.offset).take (P.cellsOf f2.type)) = some y2 ∧
      DataW.trod enc P w base spare held n f3.type ((cs.drop f3.offset).take (P.cellsOf f3.type)) = some y3 := by
  obtain ⟨xs, n, _, rfl, hl, hlen, hf⟩ := DataW.trod_struct ht h
  match xs, hlen with
  | [y0, y1, y2, y3], _ => exact ⟨y0, y1, y2, y3, n, by simpa using hf 0 f0 rfl, by simpa using hf 1 f1 rfl, by simpa using hf 2 f2 rfl, by simpa using hf 3 f3 rfl⟩
set_option maxRecDepth 100000 in
theorem trod_aw {H : Type} {enc : TypeId × Value → H} {W : World} {base : Nat} {sp : Nat → Bool} {held : Bool} (n : Nat) (cs : List Value) (y : DataW H × List MemPlace) (hl : cs.length = 4)
    (h : DataW.trod enc Tryz.prog W base sp held n 52 cs = some y) : ∃ z : Aw, cs = awf z ∧ AwIn W z := by
  match cs, hl with
  | [v0, v1, v2, v3], _ =>
    obtain ⟨y0, y1, y2, y3, n, t0, t1, t2, t3⟩ := trod_struct4w Tryz.underlying52 h
    have k0 : Tryz.prog.cellsOf 3 = 1 := by kernel_rfl
    have k1 : Tryz.prog.cellsOf 9 = 1 := by kernel_rfl
    have k2 : Tryz.prog.cellsOf 43 = 1 := by kernel_rfl
    simp [k0, k1, k2] at t0 t1 t2 t3
    obtain ⟨z0, e0, _, r0⟩ := DataW.trod_int Tryz.underlying3 t0
    obtain ⟨z1, e1, _, r1⟩ := DataW.trod_string Tryz.underlying9 t1
    obtain ⟨z2, e2, _, r2⟩ := DataW.trod_int Tryz.underlying3 t2
    simp at e0 e1 e2
    subst e0 e1 e2
    obtain ⟨ad, cap, l, rfl, hk, hl⟩ := trod_ns t3
    unfold maxLen at r1
    exact ⟨⟨z0, z1, z2, ad, cap, l⟩, rfl, (rng_i64 r2).2, (by show z1.size ≤ _; omega), hl, hk⟩
set_option maxRecDepth 100000 in
theorem open_awts {H : Type} {enc : TypeId × Value → H} {W : World} {base : Nat} {v : Value} {d : DataW H} {ps : List MemPlace}
    (hok : Value.okWide Tryz.prog W .any base 47 v) (h : DataW.Trod enc Tryz.prog W 0 (fun _ => true) true 47 v d ps) :
    ∃ ad cap, ∃ T : List Aw, v = .slice ad T.length cap ∧ Awts W ad T := by
  obtain ⟨a0, len0, cap0, rfl⟩ := okWide_slice Tryz.underlying47 hok
  obtain ⟨fuel, hf⟩ := h
  simp only [Value.cells] at hf
  have : Inhabited Aw := ⟨⟨0, ⟨#[]⟩, 0, none, 0, []⟩⟩
  obtain ⟨T, rfl, h1, h2, h3, _⟩ := open_rows awf_len (by decide) Tryz.underlying47 (by kernel_rfl) (trod_aw (W := W)) hf
  exact ⟨a0, cap0, T, rfl, h1, h2, h3⟩
end Go.Proofs.YtojmhhmpmpbpfaaGreatDoor
