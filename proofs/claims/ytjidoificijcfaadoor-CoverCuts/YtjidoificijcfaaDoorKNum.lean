/-
  What cover.numberOf answers, as a contract.
-/
import Derived.Test.YtjidoificijcfaaDoorKEq
import Derived.Test.YtjidoificijcfaaDoorNRead
set_option linter.unusedSimpArgs false
namespace Go.Proofs.YtjidoificijcfaaDoor
open Go.RowKit

theorem num_three {g : Sg} (h : g.length ≠ 3) : numO g = none := by
  unfold numO
  split
  · simp at h
  · rfl
theorem num_one {a b ps : List Tx} (h : ps.length ≠ 1) : numO [a, b, ps] = none := by
  unfold numO
  split
  · rename_i heq
    simp only [List.cons.injEq, and_true, true_and] at heq
    obtain ⟨_, _, rfl⟩ := heq
    simp at h
  · rfl
theorem num_at (a b : List Tx) (t : Tx) : (numO [a, b, [t]]).getD 0 = Nu.riV t 9 ∧ (numO [a, b, [t]]).isSome = (Nu.riE t 9 == 0) := by
  show (if Nu.riE t 9 = 0 then some (Nu.riV t 9) else none).getD 0 = _ ∧ (if Nu.riE t 9 = 0 then some (Nu.riV t 9) else none).isSome = _
  cases h : Nu.riOk t 9
  · have e := Nu.ri_none t 9 h
    rw [e.1, e.2]
    exact ⟨rfl, rfl⟩
  · have e := Nu.ri_some t 9 h
    rw [e.1, e.2]
    exact ⟨rfl, rfl⟩
def numV (g : Sg) : Int := (numO g).getD 0
def numK (g : Sg) : Bool := (numO g).isSome

set_option maxHeartbeats 1000000 in
theorem numberOf_any (v : Value) (g : Sg) (w : World) (h : ElAt All w v g) (hz : ∀ ps ∈ g, ∀ x ∈ ps, x.length ≤ 65536) :
    Calls Tryd.prog 54 #[.agg #[v]] w fun x w' => x = .returned (.tuple #[.int .i64 (numV g), .bool (numK g)]) ∧ Below w.heap.size w w' := by
  have hB : Hid (∀ o, Below w.heap.size w (w.alloc o)) := fun o => below_alloc w o
  obtain ⟨a, c, rfl, h1, h2, h3⟩ := h
  unfold maxLen at h2
  by_cases hl : g.length = 3
  · obtain ⟨p0, p1, ps, rfl⟩ : ∃ p0 p1 ps, g = [p0, p1, ps] := by
      match g, hl with
      | [p0, p1, ps], _ => exact ⟨p0, p1, ps, rfl⟩
    rcases h3 with h3 | ⟨b, o, rfl, _, hb, hc⟩
    · cases h3
    obtain ⟨u, hu, a', c', rfl, h1', h2', h3'⟩ := hc 2 ps rfl
    have hu2 : ∀ o1, (w.alloc o1).cell? ⟨b, o + 2, none⟩ = some (.slice a' ps.length c') := fun o1 => by rw [(below_alloc w o1).cell (p := ⟨b, o + 2, none⟩) hb]; exact hu
    have HZ := Lib.hid (hz ps (by simp))
    have h13 : 3 ≤ c := h1
    unfold maxLen at h2'
    clear hc hl h1 hz
    by_cases hp : ps.length = 1
    · obtain ⟨t, rfl⟩ : ∃ t, ps = [t] := by
        match ps, hp with
        | [t], _ => exact ⟨t, rfl⟩
      rcases h3' with h3' | ⟨b', o', rfl, _, hb', hc'⟩
      · cases h3'
      obtain ⟨u', hu', rfl⟩ := hc' 0 t rfl
      rw [Nat.add_zero] at hu'
      have hu3 : ∀ o1, (w.alloc o1).cell? ⟨b', o', none⟩ = some (.string (mk t)) := fun o1 => by rw [(below_alloc w o1).cell (p := ⟨b', o', none⟩) hb']; exact hu'
      have hr := fun W => Nu.readInt_any (mk t) 9 W (by rw [mk_size]; have := HZ.out t (by simp); simp only [maxLen]; omega)
      rw [mk_list] at hr
      have HR := Lib.hid hr
      have HV : Hid (numV [p0, p1, [t]] = Nu.riV t 9 ∧ numK [p0, p1, [t]] = (Nu.riE t 9 == 0)) := num_at p0 p1 t
      clear hr hc' hp hu hu'
      generalize mk t = X at *
      generalize Nu.riV t 9 = V at *
      generalize Nu.riE t 9 = E at *
      go_enter Tryd.func54, Tryd.ntmps54
      go_wp2_with (go_at_call 69; refine (HR.out _).mono ?_; rintro x w1 ⟨rfl, rfl⟩)
      go_ret2
      exact ⟨by rw [HV.out.1, HV.out.2]; rfl, hB.out _⟩
    · have HV := Lib.hid (num_one (a := p0) (b := p1) hp)
      have hpb : ((ps.length : Int) != 1) = true := by simp; omega
      clear hp h3'
      go_enter Tryd.func54, Tryd.ntmps54
      go_wp2
      go_ret2
      exact ⟨by unfold numV numK; rw [HV.out]; rfl, hB.out _⟩
  · have HV := Lib.hid (num_three hl)
    have hpb : ((g.length : Int) != 3) = true := by simp; omega
    clear hl h3
    go_enter Tryd.func54, Tryd.ntmps54
    go_wp2
    go_ret2
    exact ⟨by unfold numV numK; rw [HV.out]; rfl, hB.out _⟩
end Go.Proofs.YtjidoificijcfaaDoor
