/-
  What slices.Equal (at texts) and the reference's Texts answer, as contracts: whether two rows are the same, part by part.
-/
import Derived.Test.YtpnkgkchpoehcaaLMem
set_option linter.unusedSimpArgs false
namespace Go.Proofs.Ytpnkgkchpoehcaa.Cm
open Go.RowKit

theorem takes_eq {α : Type} [DecidableEq α] (xs ys : List α) (k : Nat) (x y : α) (hx : xs[k]? = some x) (hy : ys[k]? = some y) (h : xs.take k = ys.take k) (he : x = y) : xs.take (k + 1) = ys.take (k + 1) := by
  rw [List.take_add_one, List.take_add_one, hx, hy, h, he]
theorem takes_ne {α : Type} [DecidableEq α] (xs ys : List α) (k : Nat) (x y : α) (hx : xs[k]? = some x) (hy : ys[k]? = some y) (he : x ≠ y) : decide (xs = ys) = false := by
  rw [decide_eq_false_iff_not]
  rintro rfl
  rw [hx] at hy
  exact he (Option.some.inj hy)
theorem takes_all {α : Type} [DecidableEq α] (xs ys : List α) (k : Nat) (hx : xs.length ≤ k) (hl : xs.length = ys.length) (h : xs.take k = ys.take k) : decide (xs = ys) = true := by
  rw [decide_eq_true_iff]
  rwa [List.take_of_length_le hx, List.take_of_length_le (by omega)] at h
theorem lens_ne {α : Type} [DecidableEq α] (xs ys : List α) (h : xs.length ≠ ys.length) : decide (xs = ys) = false := by
  rw [decide_eq_false_iff_not]
  rintro rfl
  exact h rfl
theorem mk_ne (x y : Tx) : ((mk x).toList == (mk y).toList) = decide (x = y) := by
  rw [Lib.toList_data, Lib.toList_data, mk_list, mk_list]
  rw [Bool.eq_iff_iff]
  simp
theorem rowAt_at {α : Type} {K : Nat → Prop} {R : World → Value → α → Prop} {w : World} {a : Option Addr} {xs : List α} (h : xs = [] ∨ ∃ b o, a = some ⟨b, o, none⟩ ∧ K b ∧ b < w.heap.size ∧ ∀ (j : Nat) x, xs[j]? = some x → ∃ u, w.cell? ⟨b, o + j, none⟩ = some u ∧ R w u x) (k : Nat) (hk : k < xs.length) :
    ∃ b o u, a = some ⟨b, o, none⟩ ∧ xs[k]? = some xs[k] ∧ w.cell? ⟨b, o + k, none⟩ = some u ∧ R w u xs[k] := by
  rcases h with h | ⟨b, o, ha, _, _, hc⟩
  · subst h; simp at hk
  · have hx := List.getElem?_eq_getElem hk
    obtain ⟨u, h1, h2⟩ := hc k _ hx
    exact ⟨b, o, u, ha, hx, h1, h2⟩

theorem quiet_sum {P : Program} {f : FuncId} {args : Array Value} {w : World} {q n : Nat} {v : Value}
    (h : Calls P f args (w.drewN (q + n)) fun e w' => e = .returned v ∧ ∃ m, w' = (w.drewN (q + n)).drewN m) : Calls P f args (w.drewN (q + n)) fun e w'' => e = .returned v ∧ ∃ n, w'' = w.drewN (q + n) :=
  h.mono fun _ _ ⟨he, m, hm⟩ => ⟨he, n + m, by rw [hm, World.drewN_drewN, Nat.add_assoc]⟩
end Go.Proofs.Ytpnkgkchpoehcaa.Cm
