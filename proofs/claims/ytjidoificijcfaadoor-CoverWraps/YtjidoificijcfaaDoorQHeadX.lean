/-
  What seg.Head answers, and the world behind it, to the cell; a found head's value, written out.
-/
import Derived.Test.YtjidoificijcfaaDoorQHead
set_option linter.unusedSimpArgs false
namespace Go.Proofs.YtjidoificijcfaaDoor
open Go.RowKit

set_option maxHeartbeats 800000 in
theorem head_ex (e p s : UInt8) (w : World) :
    Calls Tryd.prog 26 #[dv e p s] w fun x w' => x = .returned (.string (mk (headL e p s))) ∧ w' = (w.alloc (.cells #[.int .u8 e.toNat, .int .u8 p.toNat, .int .u8 s.toNat] 23)).alloc (.cells #[.int .u8 e.toNat, .int .u8 p.toNat, .int .u8 s.toNat] 5) := by
  have hc := convL (w.alloc (.cells #[.int .u8 e.toNat, .int .u8 p.toNat, .int .u8 s.toNat] 23)) [e, p, s] #[.int .u8 e.toNat, .int .u8 p.toNat, .int .u8 s.toNat] rfl 3 rfl
  have hm := mk_app [73, 83, 65] [e, p, s]
  have hz := mk_size [e, p, s]
  have HM : Hid ((⟨#[73, 83, 65]⟩ : ByteArray) ++ mk [e, p, s] = mk (headL e p s)) := hm
  clear hm
  generalize mk [e, p, s] = m at hc hz HM
  have hz3 : m.size = 3 := hz
  clear hz
  rw [show (w.alloc (.cells #[.int .u8 e.toNat, .int .u8 p.toNat, .int .u8 s.toNat] 23)).heap.size = w.heap.size + 1 from by simp] at hc
  go_enter Tryd.func26, Tryd.ntmps26
  go_wp2
  go_ret
  exact ⟨by rw [← HM.out]; rfl, rfl⟩


theorem fdV_form (o : Option (UInt8 × UInt8 × UInt8)) : ∃ x y z : Int, fdV o = .agg #[.int .u8 x, .int .u8 y, .int .u8 z] := by
  match o with
  | none => exact ⟨_, _, _, rfl⟩
  | some (e, p, s) => exact ⟨_, _, _, rfl⟩
end Go.Proofs.YtjidoificijcfaaDoor
