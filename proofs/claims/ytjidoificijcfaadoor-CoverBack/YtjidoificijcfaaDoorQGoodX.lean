/-
  What seg.Good and its reference answer, and the world behind them, to the cell.
-/
import Derived.Test.YtjidoificijcfaaDoorQGood
set_option linter.unusedSimpArgs false
namespace Go.Proofs.YtjidoificijcfaaDoor
open Go.RowKit

set_option maxHeartbeats 2000000 in
theorem good_ex (e p s : UInt8) (w : World) :
    Calls Tryd.prog 20 #[dv e p s] w fun x w' => x = .returned (.bool (goodB e p s)) ∧ w' = w.alloc (.cells #[.int .u8 e.toNat, .int .u8 p.toNat, .int .u8 s.toNat] 23) := by
  by_cases h0 : e = p
  · have hv : goodB e p s = false := by simp [goodB, h0]
    have q0 : ((e.toNat : Int) == (p.toNat : Int)) = true := by rw [u8_eq]; simpa using h0
    clear h0
    have HV := Lib.hid hv
    clear hv
    go_enter Tryd.func20, Tryd.ntmps20
    go_wp2_with (go_at_call 38; refine (mayBe_any _ _).mono ?_; rintro e w' ⟨rfl, rfl⟩)
    go_ret
    exact ⟨by rw [HV.out]; rfl, rfl⟩
  have q0 : ((e.toNat : Int) == (p.toNat : Int)) = false := by rw [u8_eq]; simpa using h0
  by_cases h1 : e = s
  · have hv : goodB e p s = false := by simp [goodB, h1]
    have q1 : ((e.toNat : Int) == (s.toNat : Int)) = true := by rw [u8_eq]; simpa using h1
    clear h1
    have HV := Lib.hid hv
    clear hv
    go_enter Tryd.func20, Tryd.ntmps20
    go_wp2_with (go_at_call 38; refine (mayBe_any _ _).mono ?_; rintro e w' ⟨rfl, rfl⟩)
    go_ret
    exact ⟨by rw [HV.out]; rfl, rfl⟩
  have q1 : ((e.toNat : Int) == (s.toNat : Int)) = false := by rw [u8_eq]; simpa using h1
  by_cases h2 : p = s
  · have hv : goodB e p s = false := by simp [goodB, h2]
    have q2 : ((p.toNat : Int) == (s.toNat : Int)) = true := by rw [u8_eq]; simpa using h2
    clear h2
    have HV := Lib.hid hv
    clear hv
    go_enter Tryd.func20, Tryd.ntmps20
    go_wp2_with (go_at_call 38; refine (mayBe_any _ _).mono ?_; rintro e w' ⟨rfl, rfl⟩)
    go_ret
    exact ⟨by rw [HV.out]; rfl, rfl⟩
  have q2 : ((p.toNat : Int) == (s.toNat : Int)) = false := by rw [u8_eq]; simpa using h2
  cases b0 : signB e
  · have hv : goodB e p s = false := by simp [goodB, b0]
    clear h0 h1 h2
    have HV := Lib.hid hv
    clear hv
    go_enter Tryd.func20, Tryd.ntmps20
    go_wp2_with (go_at_call 38; refine (mayBe_any _ _).mono ?_; rintro e w' ⟨rfl, rfl⟩)
    go_ret
    exact ⟨by rw [HV.out]; rfl, rfl⟩
  cases b1 : signB p
  · have hv : goodB e p s = false := by simp [goodB, b1]
    clear h0 h1 h2
    have HV := Lib.hid hv
    clear hv
    go_enter Tryd.func20, Tryd.ntmps20
    go_wp2_with (go_at_call 38; refine (mayBe_any _ _).mono ?_; rintro e w' ⟨rfl, rfl⟩)
    go_ret
    exact ⟨by rw [HV.out]; rfl, rfl⟩
  cases b2 : signB s
  · have hv : goodB e p s = false := by simp [goodB, b2]
    clear h0 h1 h2
    have HV := Lib.hid hv
    clear hv
    go_enter Tryd.func20, Tryd.ntmps20
    go_wp2_with (go_at_call 38; refine (mayBe_any _ _).mono ?_; rintro e w' ⟨rfl, rfl⟩)
    go_ret
    exact ⟨by rw [HV.out]; rfl, rfl⟩
  have hv : goodB e p s = true := by simp [goodB, b0, b1, b2, h0, h1, h2, Ne.symm h0, Ne.symm h1, Ne.symm h2]
  clear h0 h1 h2
  have HV := Lib.hid hv
  clear hv
  go_enter Tryd.func20, Tryd.ntmps20
  go_wp2_with (go_at_call 38; refine (mayBe_any _ _).mono ?_; rintro e w' ⟨rfl, rfl⟩)
  go_ret
  exact ⟨by rw [HV.out]; rfl, rfl⟩
set_option maxHeartbeats 2000000 in
theorem rgood_ex (e p s : UInt8) (w : World) :
    Calls Tryd.prog 27 #[dv e p s] w fun x w' => x = .returned (.bool (goodB e p s)) ∧ w' = w.alloc (.cells #[.int .u8 e.toNat, .int .u8 p.toNat, .int .u8 s.toNat] 23) := by
  by_cases h0 : e = p
  · have hv : goodB e p s = false := by simp [goodB, h0]
    have q0 : ((e.toNat : Int) == (p.toNat : Int)) = true := by rw [u8_eq]; simpa using h0
    clear h0
    have HV := Lib.hid hv
    clear hv
    go_enter Tryd.func27, Tryd.ntmps27
    go_wp2_with (go_at_call 48; refine (rsign_any _ _).mono ?_; rintro e w' ⟨rfl, rfl⟩)
    go_ret
    exact ⟨by rw [HV.out]; rfl, rfl⟩
  have q0 : ((e.toNat : Int) == (p.toNat : Int)) = false := by rw [u8_eq]; simpa using h0
  by_cases h1 : p = s
  · have hv : goodB e p s = false := by simp [goodB, h1]
    have q1 : ((p.toNat : Int) == (s.toNat : Int)) = true := by rw [u8_eq]; simpa using h1
    clear h1
    have HV := Lib.hid hv
    clear hv
    go_enter Tryd.func27, Tryd.ntmps27
    go_wp2_with (go_at_call 48; refine (rsign_any _ _).mono ?_; rintro e w' ⟨rfl, rfl⟩)
    go_ret
    exact ⟨by rw [HV.out]; rfl, rfl⟩
  have q1 : ((p.toNat : Int) == (s.toNat : Int)) = false := by rw [u8_eq]; simpa using h1
  by_cases h2 : s = e
  · have hv : goodB e p s = false := by simp [goodB, h2]
    have q2 : ((s.toNat : Int) == (e.toNat : Int)) = true := by rw [u8_eq]; simpa using h2
    clear h2
    have HV := Lib.hid hv
    clear hv
    go_enter Tryd.func27, Tryd.ntmps27
    go_wp2_with (go_at_call 48; refine (rsign_any _ _).mono ?_; rintro e w' ⟨rfl, rfl⟩)
    go_ret
    exact ⟨by rw [HV.out]; rfl, rfl⟩
  have q2 : ((s.toNat : Int) == (e.toNat : Int)) = false := by rw [u8_eq]; simpa using h2
  cases b0 : signB e
  · have hv : goodB e p s = false := by simp [goodB, b0]
    clear h0 h1 h2
    have HV := Lib.hid hv
    clear hv
    go_enter Tryd.func27, Tryd.ntmps27
    go_wp2_with (go_at_call 48; refine (rsign_any _ _).mono ?_; rintro e w' ⟨rfl, rfl⟩)
    go_ret
    exact ⟨by rw [HV.out]; rfl, rfl⟩
  cases b1 : signB p
  · have hv : goodB e p s = false := by simp [goodB, b1]
    clear h0 h1 h2
    have HV := Lib.hid hv
    clear hv
    go_enter Tryd.func27, Tryd.ntmps27
    go_wp2_with (go_at_call 48; refine (rsign_any _ _).mono ?_; rintro e w' ⟨rfl, rfl⟩)
    go_ret
    exact ⟨by rw [HV.out]; rfl, rfl⟩
  cases b2 : signB s
  · have hv : goodB e p s = false := by simp [goodB, b2]
    clear h0 h1 h2
    have HV := Lib.hid hv
    clear hv
    go_enter Tryd.func27, Tryd.ntmps27
    go_wp2_with (go_at_call 48; refine (rsign_any _ _).mono ?_; rintro e w' ⟨rfl, rfl⟩)
    go_ret
    exact ⟨by rw [HV.out]; rfl, rfl⟩
  have hv : goodB e p s = true := by simp [goodB, b0, b1, b2, h0, h1, h2, Ne.symm h0, Ne.symm h1, Ne.symm h2]
  clear h0 h1 h2
  have HV := Lib.hid hv
  clear hv
  go_enter Tryd.func27, Tryd.ntmps27
  go_wp2_with (go_at_call 48; refine (rsign_any _ _).mono ?_; rintro e w' ⟨rfl, rfl⟩)
  go_ret
  exact ⟨by rw [HV.out]; rfl, rfl⟩
end Go.Proofs.YtjidoificijcfaaDoor
