/-
  What seg.Good and its reference answer, as contracts: whatever the signs.
-/
import Derived.Test.YtjidoificijcfaaDoorQSign
import Derived.WalkLawsBesides
set_option linter.unusedSimpArgs false
namespace Go.Proofs.YtjidoificijcfaaDoor
open Go.RowKit

theorem u8_eq (a b : UInt8) : ((a.toNat : Int) == (b.toNat : Int)) = (a == b) := by
  rw [Bool.eq_iff_iff, beq_iff_eq, beq_iff_eq]
  constructor
  · intro h; exact UInt8.toNat_inj.1 (by omega)
  · intro h; rw [h]
theorem u8_ne (a b : UInt8) : ((a.toNat : Int) != (b.toNat : Int)) = (a != b) := by rw [bne, u8_eq]; rfl
set_option maxHeartbeats 2000000 in
theorem good_any (e p s : UInt8) (w : World) :
    Calls Tryd.prog 20 #[dv e p s] w fun x w' => x = .returned (.bool (goodB e p s)) ∧ Below w.heap.size w w' := by
  have hB : Hid (∀ o, Below w.heap.size w (w.alloc o)) := fun o => (Below.refl _ w).alloc (Nat.le_refl _) o
  by_cases h0 : e = p
  · have hv : goodB e p s = false := by simp [goodB, h0]
    have q0 : ((e.toNat : Int) == (p.toNat : Int)) = true := by rw [u8_eq]; simpa using h0
    clear h0
    have HV := Lib.hid hv
    clear hv
    go_enter Tryd.func20, Tryd.ntmps20
    go_wp2_with (go_at_call 38; refine (mayBe_any _ _).mono ?_; rintro e w' ⟨rfl, rfl⟩)
    go_ret
    exact ⟨by rw [HV.out]; rfl, hB.out _⟩
  have q0 : ((e.toNat : Int) == (p.toNat : Int)) = false := by rw [u8_eq]; simpa using h0
  by_cases h1 : e = s
  · have hv : goodB e p s = false := by simp [goodB, h1]
    have q1 : ((e.toNat : Int) == (s.toNat : Int)) = true := by rw [u8_eq]; simpa using h1
    clear h1
    have HV := Lib.hid hv
    clear hv
    go_enter Tryd.func20, Tryd.ntmps20
    go_wp2_with (go_at_call 38; refine (mayBe_any _ _).mono ?_; rintro e w' ⟨rfl, rfl⟩)
    go_ret
    exact ⟨by rw [HV.out]; rfl, hB.out _⟩
  have q1 : ((e.toNat : Int) == (s.toNat : Int)) = false := by rw [u8_eq]; simpa using h1
  by_cases h2 : p = s
  · have hv : goodB e p s = false := by simp [goodB, h2]
    have q2 : ((p.toNat : Int) == (s.toNat : Int)) = true := by rw [u8_eq]; simpa using h2
    clear h2
    have HV := Lib.hid hv
    clear hv
    go_enter Tryd.func20, Tryd.ntmps20
    go_wp2_with (go_at_call 38; refine (mayBe_any _ _).mono ?_; rintro e w' ⟨rfl, rfl⟩)
    go_ret
    exact ⟨by rw [HV.out]; rfl, hB.out _⟩
  have q2 : ((p.toNat : Int) == (s.toNat : Int)) = false := by rw [u8_eq]; simpa using h2
  cases b0 : signB e
  · have hv : goodB e p s = false := by simp [goodB, b0]
    clear h0 h1 h2
    have HV := Lib.hid hv
    clear hv
    go_enter Tryd.func20, Tryd.ntmps20
    go_wp2_with (go_at_call 38; refine (mayBe_any _ _).mono ?_; rintro e w' ⟨rfl, rfl⟩)
    go_ret
    exact ⟨by rw [HV.out]; rfl, hB.out _⟩
  cases b1 : signB p
  · have hv : goodB e p s = false := by simp [goodB, b1]
    clear h0 h1 h2
    have HV := Lib.hid hv
    clear hv
    go_enter Tryd.func20, Tryd.ntmps20
    go_wp2_with (go_at_call 38; refine (mayBe_any _ _).mono ?_; rintro e w' ⟨rfl, rfl⟩)
    go_ret
    exact ⟨by rw [HV.out]; rfl, hB.out _⟩
  cases b2 : signB s
  · have hv : goodB e p s = false := by simp [goodB, b2]
    clear h0 h1 h2
    have HV := Lib.hid hv
    clear hv
    go_enter Tryd.func20, Tryd.ntmps20
    go_wp2_with (go_at_call 38; refine (mayBe_any _ _).mono ?_; rintro e w' ⟨rfl, rfl⟩)
    go_ret
    exact ⟨by rw [HV.out]; rfl, hB.out _⟩
  have hv : goodB e p s = true := by simp [goodB, b0, b1, b2, h0, h1, h2, Ne.symm h0, Ne.symm h1, Ne.symm h2]
  clear h0 h1 h2
  have HV := Lib.hid hv
  clear hv
  go_enter Tryd.func20, Tryd.ntmps20
  go_wp2_with (go_at_call 38; refine (mayBe_any _ _).mono ?_; rintro e w' ⟨rfl, rfl⟩)
  go_ret
  exact ⟨by rw [HV.out]; rfl, hB.out _⟩
set_option maxHeartbeats 2000000 in
theorem rgood_any (e p s : UInt8) (w : World) :
    Calls Tryd.prog 27 #[dv e p s] w fun x w' => x = .returned (.bool (goodB e p s)) ∧ Below w.heap.size w w' := by
  have hB : Hid (∀ o, Below w.heap.size w (w.alloc o)) := fun o => (Below.refl _ w).alloc (Nat.le_refl _) o
  by_cases h0 : e = p
  · have hv : goodB e p s = false := by simp [goodB, h0]
    have q0 : ((e.toNat : Int) == (p.toNat : Int)) = true := by rw [u8_eq]; simpa using h0
    clear h0
    have HV := Lib.hid hv
    clear hv
    go_enter Tryd.func27, Tryd.ntmps27
    go_wp2_with (go_at_call 48; refine (rsign_any _ _).mono ?_; rintro e w' ⟨rfl, rfl⟩)
    go_ret
    exact ⟨by rw [HV.out]; rfl, hB.out _⟩
  have q0 : ((e.toNat : Int) == (p.toNat : Int)) = false := by rw [u8_eq]; simpa using h0
  by_cases h1 : p = s
  · have hv : goodB e p s = false := by simp [goodB, h1]
    have q1 : ((p.toNat : Int) == (s.toNat : Int)) = true := by rw [u8_eq]; simpa using h1
    clear h1
    have HV := Lib.hid hv
    clear hv
    go_enter Tryd.func27, Tryd.ntmps27
    go_wp2_with (go_at_call 48; refine (rsign_any _ _).mono ?_; rintro e w' ⟨rfl, rfl⟩)
    go_ret
    exact ⟨by rw [HV.out]; rfl, hB.out _⟩
  have q1 : ((p.toNat : Int) == (s.toNat : Int)) = false := by rw [u8_eq]; simpa using h1
  by_cases h2 : s = e
  · have hv : goodB e p s = false := by simp [goodB, h2]
    have q2 : ((s.toNat : Int) == (e.toNat : Int)) = true := by rw [u8_eq]; simpa using h2
    clear h2
    have HV := Lib.hid hv
    clear hv
    go_enter Tryd.func27, Tryd.ntmps27
    go_wp2_with (go_at_call 48; refine (rsign_any _ _).mono ?_; rintro e w' ⟨rfl, rfl⟩)
    go_ret
    exact ⟨by rw [HV.out]; rfl, hB.out _⟩
  have q2 : ((s.toNat : Int) == (e.toNat : Int)) = false := by rw [u8_eq]; simpa using h2
  cases b0 : signB e
  · have hv : goodB e p s = false := by simp [goodB, b0]
    clear h0 h1 h2
    have HV := Lib.hid hv
    clear hv
    go_enter Tryd.func27, Tryd.ntmps27
    go_wp2_with (go_at_call 48; refine (rsign_any _ _).mono ?_; rintro e w' ⟨rfl, rfl⟩)
    go_ret
    exact ⟨by rw [HV.out]; rfl, hB.out _⟩
  cases b1 : signB p
  · have hv : goodB e p s = false := by simp [goodB, b1]
    clear h0 h1 h2
    have HV := Lib.hid hv
    clear hv
    go_enter Tryd.func27, Tryd.ntmps27
    go_wp2_with (go_at_call 48; refine (rsign_any _ _).mono ?_; rintro e w' ⟨rfl, rfl⟩)
    go_ret
    exact ⟨by rw [HV.out]; rfl, hB.out _⟩
  cases b2 : signB s
  · have hv : goodB e p s = false := by simp [goodB, b2]
    clear h0 h1 h2
    have HV := Lib.hid hv
    clear hv
    go_enter Tryd.func27, Tryd.ntmps27
    go_wp2_with (go_at_call 48; refine (rsign_any _ _).mono ?_; rintro e w' ⟨rfl, rfl⟩)
    go_ret
    exact ⟨by rw [HV.out]; rfl, hB.out _⟩
  have hv : goodB e p s = true := by simp [goodB, b0, b1, b2, h0, h1, h2, Ne.symm h0, Ne.symm h1, Ne.symm h2]
  clear h0 h1 h2
  have HV := Lib.hid hv
  clear hv
  go_enter Tryd.func27, Tryd.ntmps27
  go_wp2_with (go_at_call 48; refine (rsign_any _ _).mono ?_; rintro e w' ⟨rfl, rfl⟩)
  go_ret
  exact ⟨by rw [HV.out]; rfl, hB.out _⟩
end Go.Proofs.YtjidoificijcfaaDoor
