/-
  Texts put together (merge.py): BRep.
-/
import Derived.Test.YtjgceppbhmmbjaaDoorMb27
/-
  A claim is the same as itself: the reference's Same, of equal claims.
-/
section
set_option linter.unusedSimpArgs false
set_option linter.unusedVariables false
namespace Go.Proofs.YtjgceppbhmmbjaaDoor.Bk
open Go.RowKit
open Classical
open Cm (Ln Cl cl0 LnsAt clv)
open Sh (Ot)
theorem csame_eq (c : Cl) (m m' : Value) (w : World) (hm : LnsAt All w m c.lines) (hm' : LnsAt All w m' c.lines) : Calls Tryd.prog 23 #[clv c m, clv c m'] w fun e w' => e = .returned (.bool true) ∧ Below w.heap.size w w' := by
  refine (Cm.rsame_any c c m m' w hm hm').mono ?_
  rintro e w' ⟨rfl, hb⟩
  exact ⟨by simp, hb⟩
/-- What stands, where one takes another one's place. -/
def repF (c : Cl) (e : En) : En := @ite _ (e.cl.id = c.ref) (instDecidableEqList e.cl.id c.ref) ⟨c, e.tb, 0, []⟩ e
theorem rep_yes {c : Cl} {e : En} (h : e.cl.id = c.ref) : repF c e = ⟨c, e.tb, 0, []⟩ := by unfold repF; rw [if_pos h]
theorem rep_no {c : Cl} {e : En} (h : ¬ e.cl.id = c.ref) : repF c e = e := by unfold repF; rw [if_neg h]
theorem rep_st {B : List En} {c : Cl} (hi : Inv B) (h : admE B c 100 = 0) (hd : c.does = 7) : stand (putV B c 77 100) = (stand B).map (repF c) := rep_stand hi h hd
theorem three_ways {a b : Int} {s t : Tx} (h : ¬ (a = 0 ∧ b ≠ 1 ∧ s = t)) : (a == 0) = false ∨ ((a == 0) = true ∧ (b != 1) = false) ∨ ((a == 0) = true ∧ (b != 1) = true ∧ ((mk s).toList == (mk t).toList) = false) := by
  by_cases z1 : a = 0
  · by_cases z2 : b = 1
    · exact Or.inr (Or.inl ⟨by simp [z1], by simp [z2]⟩)
    · refine Or.inr (Or.inr ⟨by simp [z1], by simp [z2], ?_⟩)
      rw [Cm.mk_ne]
      exact decide_eq_false fun e => h ⟨z1, z2, e⟩
  · exact Or.inl (by simp [z1])
end Go.Proofs.YtjgceppbhmmbjaaDoor.Bk
end
