/-
  Texts put together (merge.py): XTools.
-/
import Derived.Deep.QuietTactic
import Derived.BigQuiet
import Derived.Test.YtgloihilnbjmeaaDoorMc43
import Derived.Test.YtgloihilnbjmeaaDoorMc44
/-
  Small facts that layer 13's laws lean on.
-/
section
set_option linter.unusedSimpArgs false
set_option linter.unusedVariables false
namespace Go.Proofs.YtgloihilnbjmeaaDoor.Ex
open Go.RowKit
open Cm (Ln)

theorem dq_drew {W w' : World} (h : ∃ q, w' = W.drewN q) (n : Nat) : ∃ q, w'.drewN n = W.drewN q := by
  obtain ⟨q, rfl⟩ := h
  exact ⟨q + n, by rw [World.drewN_drewN]⟩
theorem rel_al {x : Ln} {i n : Nat} {l : List Ln} {W w' : World} (h : ∀ (j : Nat) b, l[j]? = some b → j < n + 1 → j ≠ i → b.date ≠ x.date) (hn : n + 1 ≤ l.length) (hd : ∃ q, w' = W.drewN q) : ∃ (m q : Nat), m ≤ l.length ∧ l.length - (n + 1) = l.length - m ∧ Value.int .i64 ((n : Int) + 1) = .int .i64 (m : Nat) ∧ w' = W.drewN q ∧ Hid (∀ (j : Nat) b, l[j]? = some b → j < m → j ≠ i → b.date ≠ x.date) := by
  obtain ⟨q, rfl⟩ := hd
  exact ⟨n + 1, q, hn, rfl, by simp, rfl, h⟩
theorem row_ne {E : Nat} {l : List Wo.Wd} {x : Int × Nat} (h : pRow E l = .error x) : ¬ x.1 = 0 := by
  cases l with
  | nil => simp only [pRow, Except.error.injEq] at h; subst h; exact n4
  | cons y r =>
    obtain ⟨t, p⟩ := y
    by_cases h1 : t = tBun
    · subst h1
      rcases bundle_left E r (0, 0) rfl p with ⟨_, hr⟩ | ⟨hg, hr⟩
      · rw [h] at hr; cases hr
      · rw [h] at hr; simp only [Except.error.injEq] at hr; rw [hr]; exact hg
    by_cases h2 : t = tEit
    · subst h2
      rcases pair_left E r (0, 0) rfl p with ⟨_, hr⟩ | ⟨hg, hr⟩
      · rw [h] at hr; cases hr
      · rw [h] at hr; simp only [Except.error.injEq] at hr; rw [hr]; exact hg
    by_cases h3 : t = tUni
    · subst h3
      rcases units_left E r (0, 0) rfl p with ⟨_, hr⟩ | ⟨hg, hr⟩
      · rw [h] at hr; cases hr
      · rw [h] at hr; simp only [Except.error.injEq] at hr; rw [hr]; exact hg
    rw [row_none E h1 h2 h3] at h
    simp only [Except.error.injEq] at h
    subst h
    exact n4
theorem rows_ne {E : Nat} : ∀ (f : Nat) (acc : List Ed) (l : List Wo.Wd) {x : Int × Nat}, pRows E f acc l = .error x → ¬ x.1 = 0
  | 0, acc, l, x, h => by
    unfold pRows at h
    split at h
    · cases h
    · simp only [Except.error.injEq] at h; subst h; exact n10
  | f + 1, acc, l, x, h => by
    unfold pRows at h
    split at h
    · cases h
    · split at h
      · next e he => simp only [Except.error.injEq] at h; subst h; exact row_ne he
      · exact rows_ne f _ _ h
theorem par_ne {s : Tx} {x : Int × Nat} (h : paR s = .error x) : ¬ x.1 = 0 := by
  unfold paR at h
  split at h
  · exact rows_ne _ _ _ h
  · next hn => simp only [Except.error.injEq] at h; subst h; exact hn
end Go.Proofs.YtgloihilnbjmeaaDoor.Ex
end
