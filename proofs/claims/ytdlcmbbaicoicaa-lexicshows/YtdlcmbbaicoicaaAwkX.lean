/- awake of layer 8. -/
import Derived.Test.YtdlcmbbaicoicaaLexT
import Derived.Test.YtdlcmbbaicoicaaLexE
namespace Go.Proofs.Ytdlcmbbaicoicaa
open Go.RowKit
open Lex (Tok S scF scA scT)

def deb : List UInt8 := [100, 101, 98, 105, 116, 32, 99, 97, 115, 104, 32, 53, 59]
def debT : List Tok := [⟨1, ⟨#[100, 101, 98, 105, 116]⟩, 0⟩, ⟨1, ⟨#[99, 97, 115, 104]⟩, 6⟩, ⟨2, ⟨#[53]⟩, 11⟩, ⟨3, ⟨#[59]⟩, 12⟩, ⟨0, ⟨#[]⟩, 13⟩]
theorem deb_scan : scT deb = debT ∧ scF deb = 0 ∧ scA deb = 0 := ⟨by rfl, by rfl, by rfl⟩
theorem five_scan : scT [32, 48, 53] = [] ∧ scF [32, 48, 53] = 80 ∧ scA [32, 48, 53] = 1 := ⟨by rfl, by rfl, by rfl⟩
theorem twelve : Lex.valE 2 ⟨#[49, 50]⟩ = 12 ∧ Lex.valB 2 ⟨#[49, 50]⟩ = true := ⟨by rfl, by rfl⟩

set_option maxHeartbeats 4000000 in
set_option maxRecDepth 100000 in
theorem awake_any (w : World) : Calls Try.prog 12 #[] w fun e w' => e = .returned (.bool true) ∧ Gr w w' := by
  have H1 : Hid (∀ w', Calls Try.prog 9 #[.string ⟨#[100, 101, 98, 105, 116, 32, 99, 97, 115, 104, 32, 53, 59]⟩] w' fun e w2 => ∃ ad cap, e = .returned (.tuple #[.slice ad 5 cap, .agg #[.int .i64 0, .int .i64 0]]) ∧ 5 ≤ cap ∧ ToksAt w2 ad debT ∧ Gr w' w2) := by
    intro w'
    refine (Scan_any ⟨#[100, 101, 98, 105, 116, 32, 99, 97, 115, 104, 32, 53, 59]⟩ w').mono ?_
    obtain ⟨a, b, c⟩ := deb_scan
    rw [show (⟨#[100, 101, 98, 105, 116, 32, 99, 97, 115, 104, 32, 53, 59]⟩ : ByteArray).data.toList = deb from rfl, a, b, c]
    rintro e w2 ⟨ad, cap, h1, h2, h3, _, h4⟩
    exact ⟨ad, cap, h1, h2, h3, h4⟩
  have H2 : Hid (∀ w', Calls Try.prog 9 #[.string ⟨#[32, 48, 53]⟩] w' fun e w2 => ∃ ad cap, e = .returned (.tuple #[.slice ad 0 cap, .agg #[.int .i64 80, .int .i64 1]]) ∧ Gr w' w2) := by
    intro w'
    refine (Scan_any ⟨#[32, 48, 53]⟩ w').mono ?_
    obtain ⟨a, b, c⟩ := five_scan
    rw [show (⟨#[32, 48, 53]⟩ : ByteArray).data.toList = [32, 48, 53] from rfl, a, b, c]
    rintro e w2 ⟨ad, cap, h1, _, _, _, h4⟩
    exact ⟨ad, cap, h1, h4⟩
  have H3 : Hid (∀ w', Calls Try.prog 17 #[.agg #[.int .i64 2, .string ⟨#[49, 50]⟩, .int .i64 0]] w' fun e w2 => e = .returned (.tuple #[.int .i64 12, .bool true]) ∧ Gr w' w2) := by
    intro w'
    have := value_any 2 ⟨#[49, 50]⟩ 0 w' (by decide)
    obtain ⟨a, b⟩ := twelve
    rw [a, b] at this
    exact this
  go_enter Try.func12, Try.ntmps12
  go_wp2_with fail
  refine (H1.out _).mono ?_
  rintro e w1 ⟨ad, cap, rfl, hcp, hT, hg1⟩
  obtain ⟨b, off, rfl, hb, t0, t1, t2⟩ := hT 2 (by decide)
  obtain ⟨b', off', e', _, u0, u1, u2⟩ := hT 4 (by decide)
  cases e'
  have HG1 : Hid (Gr w w1) := hg1
  have T0 : Hid (w1.cell? ⟨b, off + 2 * 3, none⟩ = some (.int .i64 2) ∧ w1.cell? ⟨b, off + 2 * 3 + 1, none⟩ = some (.string ⟨#[53]⟩) ∧ w1.cell? ⟨b, off + 2 * 3 + 2, none⟩ = some (.int .i64 11) ∧ w1.cell? ⟨b, off + 4 * 3, none⟩ = some (.int .i64 0) ∧ w1.cell? ⟨b, off + 4 * 3 + 1, none⟩ = some (.string ⟨#[]⟩) ∧ w1.cell? ⟨b, off + 4 * 3 + 2, none⟩ = some (.int .i64 13)) := ⟨t0, t1, t2, u0, u1, u2⟩
  clear hT hg1 t0 t1 t2 u0 u1 u2
  go_wp2_with fail
  refine (H2.out _).mono ?_
  rintro e w2 ⟨ad2, cap2, rfl, hg2⟩
  have HG2 : Hid (Gr w w2) := HG1.out.trans ((Gr.refl _).alloc.trans hg2)
  have HF2 : Hid (FaAt w2 w1.heap.size 0 0) := (FaAt.new w1 0 0 25 _ rfl).gr hg2
  have g12 : Gr w1 w2 := (Gr.refl _).alloc.trans hg2
  clear hg2
  go_wp2_with fail
  refine (H3.out _).mono ?_
  rintro e w3 ⟨rfl, hg3⟩
  have g13 : Gr w1 w3 := g12.trans ((Gr.refl _).alloc.trans hg3)
  have HG3 : Hid (Gr w w3) := HG1.out.trans g13
  obtain ⟨q0, q1, _, _, ql⟩ := HF2.out.gr ((Gr.refl _).alloc.trans hg3)
  obtain ⟨p0, p1, _, _, pl⟩ := (FaAt.new w2 80 1 25 _ rfl).gr hg3
  obtain ⟨t0, t1, t2, u0, u1, u2⟩ := T0.out
  replace t0 := g13.keep t0
  replace t1 := g13.keep t1
  replace t2 := g13.keep t2
  replace u0 := g13.keep u0
  replace u1 := g13.keep u1
  replace u2 := g13.keep u2
  have hbw : b < w3.heap.size := Nat.lt_of_lt_of_le hb g13.size
  clear g12 g13 hg3
  go_wp2
  go_ret
  exact ⟨rfl, HG3.out⟩
end Go.Proofs.Ytdlcmbbaicoicaa
