/-
  What claim.Line and the reference's Line answer, as contracts: for every service.
-/
import Derived.Test.YtpnkgkchpoehcaaLCode
import Derived.Test.YtpnkgkchpoehcaaDRef
import Derived.Test.YtpnkgkchpoehcaaCRefs
set_option linter.unusedSimpArgs false
namespace Go.Proofs.Ytpnkgkchpoehcaa.Cm
open Go.RowKit

theorem line9 {x : Ln} (h : codesB x = false) : lineE x = 9 := by simp [lineE, h]
theorem line7 {x : Ln} (h : codesB x = true) (h1 : Da.good x.date = false) : lineE x = 7 := by simp [lineE, h, h1]
theorem line3 {x : Ln} (h : codesB x = true) (h1 : Da.good x.date = true) (h2 : unitsB x.units = false) : lineE x = 3 := by simp [lineE, h, h1, h2]
theorem line8 {x : Ln} (h : codesB x = true) (h1 : Da.good x.date = true) (h2 : unitsB x.units = true) (h3 : moneyB x = false) : lineE x = 8 := by simp [lineE, h, h1, h2, h3]
theorem line0 {x : Ln} (h : codesB x = true) (h1 : Da.good x.date = true) (h2 : unitsB x.units = true) (h3 : moneyB x = true) : lineE x = 0 := by simp [lineE, h, h1, h2, h3]

end Go.Proofs.Ytpnkgkchpoehcaa.Cm
