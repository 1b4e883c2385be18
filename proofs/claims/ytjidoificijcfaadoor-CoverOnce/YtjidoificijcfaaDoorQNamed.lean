/-
  What seg.named and seg.plainParts answer, as contracts: for every segment.
-/
import Derived.Test.YtjidoificijcfaaDoorQSame
set_option linter.unusedSimpArgs false
namespace Go.Proofs.YtjidoificijcfaaDoor
open Go.RowKit

theorem mk_nil (x : Tx) : ((mk x).toList == []) = x.isEmpty := by
  rw [Lib.toList_data, mk_list]
  cases x <;> rfl
theorem mk_empty (x : Tx) : (mk x).toList.isEmpty = x.isEmpty := by rw [Lib.toList_data, mk_list]

set_option maxHeartbeats 1000000 in
theorem named_any (v : Value) (g : Sg) (w : World) (h : ElAt All w v g) :
    Calls Tryd.prog 41 #[.agg #[v]] w fun e w' => e = .returned (.bool (namedB g)) ∧ Below w.heap.size w w' := by
  have hB : Hid (∀ o, Below w.heap.size w (w.alloc o)) := fun o => (Below.refl _ w).alloc (Nat.le_refl _) o
  obtain ⟨a, c, rfl, h1, h2, h3⟩ := h
  unfold maxLen at h2
  cases g with
  | nil =>
    clear h3
    go_enter Tryd.func41, Tryd.ntmps41
    go_wp2
    go_ret
    exact ⟨rfl, hB.out _⟩
  | cons ps r =>
    rcases h3 with h3 | ⟨b, o, rfl, _, hb, hc⟩
    · cases h3
    obtain ⟨u, hu, a', c', rfl, h1', h2', h3'⟩ := hc 0 ps rfl
    have hn : b ≠ w.heap.size := Nat.ne_of_lt hb
    rw [Nat.add_zero] at hu
    unfold maxLen at h2'
    rw [List.length_cons] at h1 ⊢
    generalize r.length = n at h1 ⊢
    clear hc
    rcases ps with _ | ⟨x, _ | ⟨y, z⟩⟩
    · have HV : Hid (namedB ([] :: r) = false) := rfl
      clear h3'
      go_enter Tryd.func41, Tryd.ntmps41
      go_wp2
      go_ret
      exact ⟨by rw [HV.out]; rfl, hB.out _⟩
    · rcases h3' with h3' | ⟨b', o', rfl, _, hb', hc'⟩
      · cases h3'
      obtain ⟨u', hu', rfl⟩ := hc' 0 x rfl
      have hn' : b' ≠ w.heap.size := Nat.ne_of_lt hb'
      rw [Nat.add_zero] at hu'
      have HV : Hid (namedB ([x] :: r) = !x.isEmpty) := rfl
      have e1 := mk_nil x
      have e2 := mk_empty x
      generalize mk x = X at *
      generalize x.isEmpty = q at *
      clear hc'
      cases q
      · have e3 : ¬ X.toList = [] := by intro e; rw [e] at e1; cases e1
        go_enter Tryd.func41, Tryd.ntmps41
        go_wp2
        go_ret
        exact ⟨by rw [HV.out]; rfl, hB.out _⟩
      · have e3 : X.toList = [] := by simpa using e1
        go_enter Tryd.func41, Tryd.ntmps41
        go_wp2
        go_ret
        exact ⟨by rw [HV.out]; rfl, hB.out _⟩
    · have HV : Hid (namedB ((x :: y :: z) :: r) = false) := rfl
      rw [List.length_cons, List.length_cons] at h1' hu
      generalize hz : z.length + 1 + 1 = m at h1' hu
      have hm : ((m : Int) == 1) = false := by rw [beq_eq_false_iff_ne]; omega
      clear h3' hz
      go_enter Tryd.func41, Tryd.ntmps41
      go_wp2
      go_ret
      exact ⟨by rw [HV.out]; rfl, hB.out _⟩
end Go.Proofs.YtjidoificijcfaaDoor
