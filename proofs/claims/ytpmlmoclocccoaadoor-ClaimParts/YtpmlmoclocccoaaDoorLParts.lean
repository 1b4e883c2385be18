/-
  Some services of a claim: what is left of what lies there.
-/
import Derived.Test.YtpmlmoclocccoaaDoorLOne
set_option linter.unusedSimpArgs false
namespace Go.Proofs.YtpmlmoclocccoaaDoor.Cm
open Go.RowKit

theorem clok_take {c : Cl} (h : ClOk c) (k : Nat) : ClOk { c with lines := c.lines.take k } := by
  obtain ⟨h1, h2, h3, h4, h5, h6, h7, h8⟩ := h
  refine ⟨h1, h2, h3, h4, h5, h6, ?_, fun x hx => h8 x (List.mem_of_mem_take hx)⟩
  show (c.lines.take k).length ≤ _
  rw [List.length_take]
  omega
theorem LnsAt.take {w : World} {a : Option Addr} {n c : Nat} {ls : List Ln} (h : LnsAt All w (.slice a n c) ls) (k : Nat) (hk : k ≤ ls.length) : LnsAt All w (.slice a k c) (ls.take k) := by
  obtain ⟨a', c', he, h1, h2, h3⟩ := h
  injection he with e1 e2 e3
  subst e1 e3
  have hl : (ls.take k).length = k := by simp; omega
  refine ⟨a, c, by rw [hl], by rw [hl]; omega, h2, ?_⟩
  rcases h3 with h3 | ⟨b, o, rfl, hK, hb, hc⟩
  · left; rw [h3]; simp
  · exact Or.inr ⟨b, o, rfl, hK, hb, fun j x hj => hc j x (by
      rw [List.getElem?_take] at hj
      split at hj
      · exact hj
      · cases hj)⟩
theorem wrap_mod (a : Int) (n : Nat) (h : 0 < n) : ∃ K : Nat, (IntKind.u64.wrap a).tmod (n : Int) = (K : Int) ∧ K < n := by
  have h0 : 0 ≤ IntKind.u64.wrap a := by
    have : IntKind.u64.wrap a = a % 18446744073709551616 := by simp [IntKind.wrap, IntKind.signed, IntKind.bits]
    rw [this]
    omega
  have h1 := Int.tmod_nonneg (n : Int) h0
  have h2 : (IntKind.u64.wrap a).tmod (n : Int) < n := Int.tmod_lt_of_pos _ (by omega)
  exact ⟨((IntKind.u64.wrap a).tmod (n : Int)).toNat, by omega, by omega⟩
end Go.Proofs.YtpmlmoclocccoaaDoor.Cm
