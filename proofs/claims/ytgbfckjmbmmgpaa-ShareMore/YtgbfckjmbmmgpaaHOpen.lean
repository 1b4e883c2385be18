/-
  Benefits and rows of six amounts that are handed in, opened.
-/
import Derived.Test.YtgbfckjmbmmgpaaRows
import Derived.ProofKit
import Derived.OpenShut
import Derived.Carry
import Derived.Deep.Strs
import Derived.Lib.SmallJoins
set_option maxRecDepth 100000
set_option linter.unusedVariables false
namespace Go.Proofs.Ytgbfckjmbmmgpaa.Ho
open Go.ChangeShapes Go.WideShapes Go.ChangeAt Go.RowKit Go.Deep

def I64 (a : Int) : Prop := -9223372036854775808 ≤ a ∧ a ≤ 9223372036854775807
variable {H : Type} {enc : TypeId × Value → H} {W : World} {base : Nat} {spare : Nat → Bool} {held : Bool}
theorem i64_of {a : Int} (h : (Lit.int .i64 a).wf = true) : I64 a := by
  simpa [I64, Lit.wf, IntKind.min, IntKind.max, IntKind.signed, IntKind.bits] using h
theorem each_i64 {n : Nat} {v : Value} {y : DataW H × List MemPlace} (h : DataW.trod enc Try.prog W base spare held n 2 [v] = some y) : ∃ a : Int, v = .int .i64 a ∧ I64 a := by
  obtain ⟨a, h1, _, h3⟩ := DataW.trod_int Try.underlying2 h
  exact ⟨a, by simpa using h1, i64_of h3⟩
theorem each_bool {n : Nat} {v : Value} {y : DataW H × List MemPlace} (h : DataW.trod enc Try.prog W base spare held n 4 [v] = some y) : ∃ a : Bool, v = .bool a := by
  obtain ⟨a, h1, _⟩ := DataW.trod_bool Try.underlying4 h
  exact ⟨a, by simpa using h1⟩
theorem open_ben {r : Reach} {b0 : Nat} {v : Value} {d : DataW H} {p : List MemPlace} (hv : Value.okWide Try.prog W r b0 23 v) (h : DataW.Trod enc Try.prog W base spare held 23 v d p) : ∃ (co dd : Bool) (cp cn : Int), v = .agg #[.bool co, .bool dd, .int .i64 cp, .int .i64 cn] ∧ I64 cp ∧ I64 cn := by
  obtain ⟨v0, v1, v2, v3, y0, y1, y2, y3, n, rfl, _, _, h0, h1, h2, h3⟩ := Go.Joins.open_agg4 Try.underlying23 (by kernel_rfl) (by kernel_rfl) hv h
  obtain ⟨a, rfl⟩ := each_bool h0
  obtain ⟨b, rfl⟩ := each_bool h1
  obtain ⟨c, rfl, k1⟩ := each_i64 h2
  obtain ⟨e, rfl, k2⟩ := each_i64 h3
  exact ⟨a, b, c, e, rfl, k1, k2⟩
theorem list6 : ∀ l : List Value, l.length = 6 → ∃ a b c d e f, l = [a, b, c, d, e, f]
  | [a, b, c, d, e, f], _ => ⟨a, b, c, d, e, f, rfl⟩
  | [], h | [_], h | [_, _], h | [_, _, _], h | [_, _, _, _], h | [_, _, _, _, _], h => by simp at h
  | _ :: _ :: _ :: _ :: _ :: _ :: _ :: _, h => by simp at h
theorem c6 : Try.prog.cellsOf 29 = 6 := by kernel_rfl
theorem c64 : Try.prog.cellsOf 2 = 1 := by kernel_rfl
theorem open_six {r : Reach} {b0 : Nat} {v : Value} {d : DataW H} {p : List MemPlace} (hv : Value.okWide Try.prog W r b0 29 v) (h : DataW.Trod enc Try.prog W base spare held 29 v d p) : ∃ a b c e f g : Int, v = .agg #[.int .i64 a, .int .i64 b, .int .i64 c, .int .i64 e, .int .i64 f, .int .i64 g] := by
  obtain ⟨cs, rfl, hsz, _⟩ : ∃ cs, v = .agg cs ∧ cs.size = Try.prog.cellsOf 29 ∧ Row.okWide Try.prog W r b0 29 cs := by
    simpa [Value.okWide, Try.underlying29] using hv
  rw [c6] at hsz
  obtain ⟨l⟩ := cs
  obtain ⟨v0, v1, v2, v3, v4, v5, rfl⟩ := list6 l (by simpa using hsz)
  obtain ⟨fuel, hf⟩ := h
  obtain ⟨xs, m, _, _, _, hl, hel⟩ := DataW.trod_array Try.underlying29 hf
  match xs, hl with
  | [y0, y1, y2, y3, y4, y5], _ =>
    have h0 := hel 0 (by omega)
    have h1 := hel 1 (by omega)
    have h2 := hel 2 (by omega)
    have h3 := hel 3 (by omega)
    have h4 := hel 4 (by omega)
    have h5 := hel 5 (by omega)
    rw [c64] at h0 h1 h2 h3 h4 h5
    obtain ⟨a0, rfl, _⟩ := each_i64 (y := y0) (by simpa [Value.cells] using h0)
    obtain ⟨a1, rfl, _⟩ := each_i64 (y := y1) (by simpa [Value.cells] using h1)
    obtain ⟨a2, rfl, _⟩ := each_i64 (y := y2) (by simpa [Value.cells] using h2)
    obtain ⟨a3, rfl, _⟩ := each_i64 (y := y3) (by simpa [Value.cells] using h3)
    obtain ⟨a4, rfl, _⟩ := each_i64 (y := y4) (by simpa [Value.cells] using h4)
    obtain ⟨a5, rfl, _⟩ := each_i64 (y := y5) (by simpa [Value.cells] using h5)
    exact ⟨a0, a1, a2, a3, a4, a5, rfl⟩
end Go.Proofs.Ytgbfckjmbmmgpaa.Ho
