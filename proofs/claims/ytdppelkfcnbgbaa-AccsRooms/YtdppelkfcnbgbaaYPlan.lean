/-
  A plan that may be has limits that are amounts.
-/
import Derived.Test.YtdppelkfcnbgbaaYRRoom
import Derived.Test.YtdppelkfcnbgbaaPRCh
import Derived.Test.YtdppelkfcnbgbaaPWgt
set_option linter.unusedSimpArgs false
namespace Go.Proofs.Ytdppelkfcnbgbaa.Ac
theorem plan_in {p : Pl.Pn} (h : Pl.checkE p = 0) : In p.indDed ∧ In p.famDed ∧ In p.indOop ∧ In p.famOop := by
  unfold Pl.checkE at h
  split at h
  · next hp =>
    simp only [Pl.planB, Pl.limB, Pl.goodB, Bool.and_eq_true, decide_eq_true_eq] at hp
    obtain ⟨-, -, ⟨⟨a1, a2⟩, ⟨a3, a4⟩, a5, a6, a7, a8⟩, -⟩ := hp
    unfold In
    omega
  · simp at h
end Go.Proofs.Ytdppelkfcnbgbaa.Ac
