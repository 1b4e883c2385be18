/-
  What claim.ref and head answer, as contracts: for every claim; services are not looked at.
-/
import Derived.Test.YtpnkgkchpoehcaaLCode
set_option linter.unusedSimpArgs false
namespace Go.Proofs.Ytpnkgkchpoehcaa.Cm
open Go.RowKit

theorem mk_empty (s : Tx) : (mk s).toList.isEmpty = decide (s = []) := by
  rw [Lib.toList_data, mk_list]
  rw [Bool.eq_iff_iff]
  simp

theorem head9 {x : Cl} (h : namesB x = false) : headE x = 9 := by simp [headE, h]
theorem head3 {x : Cl} (h : namesB x = true) (h1 : netB x.net = false) : headE x = 3 := by simp [headE, h, h1]
theorem head9' {x : Cl} (h : namesB x = true) (h1 : netB x.net = true) (h2 : refB x = false) : headE x = 9 := by simp [headE, h, h1, h2]
theorem head3' {x : Cl} (h : namesB x = true) (h1 : netB x.net = true) (h2 : refB x = true) (h3 : doesB x.does = false) : headE x = 3 := by simp [headE, h, h1, h2, h3]
theorem head0 {x : Cl} (h : namesB x = true) (h1 : netB x.net = true) (h2 : refB x = true) (h3 : doesB x.does = true) : headE x = 0 := by simp [headE, h, h1, h2, h3]
def ClShort (c : Cl) : Prop := c.id.length ≤ 281474976710656 ∧ c.mem.length ≤ 281474976710656 ∧ c.fam.length ≤ 281474976710656 ∧ c.ref.length ≤ 281474976710656
theorem ClOk.short {c : Cl} (h : ClOk c) : ClShort c := ⟨h.2.2.1, h.2.2.2.1, h.2.2.2.2.1, h.2.2.2.2.2.1⟩

end Go.Proofs.Ytpnkgkchpoehcaa.Cm
