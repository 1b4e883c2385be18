/-
  What claim.Check and Batch answer, as contracts.
-/
import Derived.Test.YtpnkgkchpoehcaaLLines
import Derived.Test.YtpnkgkchpoehcaaLHead
import Derived.Test.YtpnkgkchpoehcaaLTot
set_option linter.unusedSimpArgs false
namespace Go.Proofs.Ytpnkgkchpoehcaa.Cm
open Go.RowKit

abbrev boxc (c : Cl) (m : Value) : Obj := .cells #[.string (mk c.id), .string (mk c.mem), .string (mk c.fam), .int .i64 c.net, .int .i64 c.does, .string (mk c.ref), m] 24
theorem slice_of {m : Value} {a : Option Addr} {n c : Nat} (h : m = .slice a n c) : ∃ a n k, m = .slice a n k := ⟨a, n, c, h⟩
theorem rest10 {c : Cl} (h : ¬ c.lines.length ≤ 999) : restE c = 10 := by unfold restE; rw [if_neg h]
theorem rest6 {c : Cl} (h : c.lines.length ≤ 999) (h1 : voidB c = false) : restE c = 6 := by unfold restE; rw [if_pos h, h1]; simp
theorem restL {c : Cl} (h : c.lines.length ≤ 999) (h1 : voidB c = true) (h2 : linesE c.lines ≠ 0) : restE c = linesE c.lines := by unfold restE; rw [if_pos h, if_pos h1, if_neg h2]
theorem restT {c : Cl} (h : c.lines.length ≤ 999) (h1 : voidB c = true) (h2 : linesE c.lines = 0) : restE c = totE c.lines := by unfold restE; rw [if_pos h, if_pos h1, if_pos h2]

/-- A batch in a box. -/
def BtBox (w : World) (b : Nat) (n : Int) (m : Value) : Prop := w.cell? ⟨b, 0, none⟩ = some (.int .i64 n) ∧ w.cell? ⟨b, 1, none⟩ = some m
abbrev btv (n : Int) (m : Value) : Value := .agg #[.int .i64 n, m]
end Go.Proofs.Ytpnkgkchpoehcaa.Cm
