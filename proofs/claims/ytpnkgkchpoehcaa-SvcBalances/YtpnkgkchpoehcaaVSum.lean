/-
  Adjustments together, part by part; what is known of them where a claim may be.
-/
import Derived.Test.YtpnkgkchpoehcaaVLight
set_option linter.unusedSimpArgs false
set_option linter.unusedVariables false
namespace Go.Proofs.Ytpnkgkchpoehcaa.Sv
open Go.RowKit

theorem sumC_bd' : ∀ (l : List Ca), (∀ c ∈ l, Bd c.ct) → -(1125899906842624 * (l.length : Int)) ≤ sumC l ∧ sumC l ≤ 1125899906842624 * (l.length : Int)
  | [], _ => by simp [sumC]
  | c :: l, h => by
    have a := sumC_bd' l fun x hx => h x (List.mem_cons_of_mem _ hx)
    have b := h c (List.mem_cons_self ..)
    unfold Bd at b
    simp only [sumC, List.length_cons]
    push_cast
    omega
theorem totC_bd' : ∀ (l : List Sr), (∀ s ∈ l, BdS s) → -(5629499534213120 * (l.length : Int)) ≤ totC l ∧ totC l ≤ 5629499534213120 * (l.length : Int)
  | [], _ => by simp [totC]
  | s :: l, h => by
    have a := totC_bd' l fun x hx => h x (List.mem_cons_of_mem _ hx)
    obtain ⟨-, -, b5, b6⟩ := h s (List.mem_cons_self ..)
    have b := sumC_bd' s.cas b6
    simp only [totC, List.length_cons]
    push_cast
    omega
theorem sumC_bd (l : List Ca) (hl : l.length ≤ 5) (h : ∀ c ∈ l, Bd c.ct) (j : Nat) : -5629499534213120 ≤ sumC (l.drop j) ∧ sumC (l.drop j) ≤ 5629499534213120 := by
  have a := sumC_bd' (l.drop j) fun c hc => h c (List.mem_of_mem_drop hc)
  have b : (l.drop j).length ≤ 5 := by simp; omega
  omega
theorem totC_bd (l : List Sr) (hl : l.length ≤ 999) (h : ∀ s ∈ l, BdS s) (k : Nat) : -5623870034678906880 ≤ totC (l.drop k) ∧ totC (l.drop k) ≤ 5623870034678906880 := by
  have a := totC_bd' (l.drop k) fun c hc => h c (List.mem_of_mem_drop hc)
  have b : (l.drop k).length ≤ 999 := by simp; omega
  omega
theorem totC_step {l : List Sr} {k : Nat} {s : Sr} (hx : l[k]? = some s) : totC (l.drop k) = sumC s.cas + totC (l.drop (k + 1)) := by
  obtain ⟨hl, he⟩ := List.getElem?_eq_some_iff.1 hx
  rw [List.drop_eq_getElem_cons hl, he]; rfl
theorem sumC_step {l : List Ca} {k : Nat} {c : Ca} (hx : l[k]? = some c) : sumC (l.drop k) = c.ct + sumC (l.drop (k + 1)) := by
  obtain ⟨hl, he⟩ := List.getElem?_eq_some_iff.1 hx
  rw [List.drop_eq_getElem_cons hl, he]; rfl
theorem totC_end {l : List Sr} {k : Nat} (hk : l.length ≤ k) : totC (l.drop k) = 0 := by rw [List.drop_eq_nil_of_le hk]; rfl
theorem sumC_end {l : List Ca} {k : Nat} (hk : l.length ≤ k) : sumC (l.drop k) = 0 := by rw [List.drop_eq_nil_of_le hk]; rfl
open Classical in
/-- Both tell the same of whether two are the same. -/
theorem sames_any (x y : Cp) : ∃ D : Bool, (∀ (m m' : Value) (w : World), SvsAt All w m x.svs → SvsAt All w m' y.svs → Calls Try.prog 16 #[cpv x m, cpv y m'] w fun e w' => e = .returned (.bool D) ∧ Below w.heap.size w w') ∧ (∀ (m m' : Value) (w : World), SvsAt All w m x.svs → SvsAt All w m' y.svs → Calls Try.prog 12 #[cpv x m, cpv y m'] w fun e w' => e = .returned (.bool D) ∧ Below w.heap.size w w') :=
  ⟨decide (x = y), fun m m' w h h' => same_any x y m m' w h h', fun m m' w h h' => rsame_any x y m m' w h h'⟩
open Classical in
theorem same_self (x : Cp) : ∀ (m m' : Value) (w : World), SvsAt All w m x.svs → SvsAt All w m' x.svs → Calls Try.prog 12 #[cpv x m, cpv x m'] w fun e w' => e = .returned (.bool true) ∧ Below w.heap.size w w' := fun m m' w h h' => by
  have h1 := rsame_any x x m m' w h h'
  rw [decide_eq_true (rfl : x = x)] at h1
  exact h1
end Go.Proofs.Ytpnkgkchpoehcaa.Sv
