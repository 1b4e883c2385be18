/-
  Two adjustments held against each other: one step of a walk.
-/
import Derived.Test.YtpnkgkchpoehcaaVRChk
import Derived.Laws.StructEq
set_option linter.unusedSimpArgs false
set_option linter.unusedVariables false
set_option maxRecDepth 100000
namespace Go.Proofs.Ytpnkgkchpoehcaa.Sv
open Go.RowKit
open Cm (mk_ne)
open Classical

theorem undK : Try.prog.underlying Tk = some (.struct (Try.prog.fieldsOf Tk)) := by kernel_rfl
theorem fields_map : (Try.prog.fieldsOf Tk).toList.map (fun f => (f.name == "_", f.type, f.offset)) = [(false, 9, 0), (false, 3, 1), (false, 2, 2)] := by kernel_rfl
theorem three_list {l : List Field} (h : l.map (fun f => (f.name == "_", f.type, f.offset)) = [(false, 9, 0), (false, 3, 1), (false, 2, 2)]) : ∃ f g k : Field, l = [f, g, k] ∧ (f.name ≠ "_" ∧ f.type = 9 ∧ f.offset = 0) ∧ (g.name ≠ "_" ∧ g.type = 3 ∧ g.offset = 1) ∧ (k.name ≠ "_" ∧ k.type = 2 ∧ k.offset = 2) := by
  have hl : l.length = 3 := by have := congrArg List.length h; simpa using this
  match l, hl, h with
  | [f, g, k], _, h =>
    simp only [List.map_cons, List.map_nil, List.cons.injEq, Prod.mk.injEq, and_true, beq_eq_false_iff_ne] at h
    exact ⟨f, g, k, rfl, h.1, h.2.1, h.2.2⟩
theorem ca_dec (x y : Ca) : decide (x = y) = (decide (x.grp = y.grp) && (decide (x.why = y.why) && decide (x.ct = y.ct))) := by
  rw [Bool.eq_iff_iff]
  obtain ⟨a, b, c⟩ := x
  obtain ⟨d, e, f⟩ := y
  simp
theorem neq_cas (x y : Ca) (w : World) : (binOp .neq Tk (.agg #[.string (mk x.grp), .int .i64 x.why, .int .i64 x.ct]) (.agg #[.string (mk y.grp), .int .i64 y.why, .int .i64 y.ct])).run Try.prog w = .ok (.bool (!decide (x = y))) w := by
  rw [run_neq_struct, run_equalIn_agg w 9999 Tk _ _ undK (by kernel_rfl)]
  obtain ⟨f, g, k, hl, ⟨f1, f2, f3⟩, ⟨g1, g2, g3⟩, ⟨k1, k2, k3⟩⟩ := three_list fields_map
  rw [hl, ca_dec]
  have e1 := mk_ne x.grp y.grp
  have e2 : (x.why == y.why) = decide (x.why = y.why) := by rw [Bool.eq_iff_iff]; simp
  have e3 : (x.ct == y.ct) = decide (x.ct = y.ct) := by rw [Bool.eq_iff_iff]; simp
  simp only [Op.eqFields, if_pos f1, if_pos g1, if_pos k1, f2, f3, g2, g3, k2, k3]
  cases h1 : decide (x.grp = y.grp) <;> rw [h1] at e1 <;> cases h2 : decide (x.why = y.why) <;> rw [h2] at e2 <;> cases h3 : decide (x.ct = y.ct) <;> rw [h3] at e3 <;> simp [part, go_sem, e1, e2, e3]
end Go.Proofs.Ytpnkgkchpoehcaa.Sv
