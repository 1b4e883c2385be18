/-
  The walk of the law on what is written.
-/
import Derived.Test.YtclbejgnaphekaaDoorQWorks
import Derived.Test.YtclbejgnaphekaaDoorQLight
import Derived.Test.YtclbejgnaphekaaDoorQRWrite
set_option linter.unusedSimpArgs false
namespace Go.Proofs.YtclbejgnaphekaaDoor
open Go.RowKit
attribute [local go_sem ↓] Go.wp_at_zero Go.wp_at_succ

set_option maxHeartbeats 2000000 in
theorem writes_walk (w : World) (e0 p0 s0 : UInt8) (v1 : Value) (l1 : List Sg) (w1 : SgAt All w v1 l1) (z1 : ∀ g ∈ l1, ∀ ps ∈ g, ∀ x ∈ ps, x.length ≤ 281474976710656) (a2 : ByteArray) (w2 : a2.size ≤ maxLen) (hT : Tab w) :
    Calls Tryd.prog 4 #[dv e0 p0 s0, v1, .string a2] w fun e w' => e = .returned (.bool true) ∧ Below w.heap.size w w' := by
  have HTb := Lib.hid hT
  have HB := Lib.hid (below_alloc w (.cells #[.int .u8 e0.toNat, .int .u8 p0.toNat, .int .u8 s0.toNat] 23))
  have HWk : Hid (∀ W, Below w.heap.size w W → Calls Tryd.prog 15 #[] W fun x w' => x = .returned (.bool true) ∧ Below W.heap.size W w') := fun W h => works_any W (tab_grw HTb.out h)
  have HSg : Hid (∀ W, Below w.heap.size w W → SgAt All W v1 l1) := fun W h => SgAt.move w1 (Below.moves h)
  have HLt := Lib.hid fun W h => light_any v1 l1 W h z1
  have HPl := Lib.hid fun W => plain_any e0 p0 s0 a2 W w2
  have HRPl := Lib.hid fun W => rplain_any e0 p0 s0 a2 W w2
  generalize plainB e0 p0 s0 a2.data.toList = PB at *
  have HX : Hid (∀ W, Below (w.alloc (.cells #[.int .u8 e0.toNat, .int .u8 p0.toNat, .int .u8 s0.toNat] 23)).heap.size (w.alloc (.cells #[.int .u8 e0.toNat, .int .u8 p0.toNat, .int .u8 s0.toNat] 23)) W → (W.cell? ⟨w.heap.size, 0, none⟩ = some (.int .u8 e0.toNat) ∧ W.cell? ⟨w.heap.size, 1, none⟩ = some (.int .u8 p0.toNat) ∧ W.cell? ⟨w.heap.size, 2, none⟩ = some (.int .u8 s0.toNat)) ∧ Below w.heap.size w W) := fun W h => ⟨(DBox.grw (DBox.new w e0 p0 s0) h).2, below_trans HB.out h⟩
  clear hT z1 w2
  obtain ⟨a1, c1, rfl, -, -, -⟩ := w1
  go_enter Tryd.func4, Tryd.ntmps4
  go_upto_if 13 with (go_at_call 16; refine (HLt.out _ (HSg.out _ HB.out)).mono ?_; rintro x x1 ⟨⟨b, rfl, hln⟩, hw⟩; rw [hw]; clear hw; have HLN := Lib.hid hln; clear hln)
  cases b
  · go_wp2_with (go_at_call 15; refine (HWk.out _ HB.out).mono ?_; rintro x x3 ⟨rfl, hb⟩; have HB3 := Lib.hid (below_trans HB.out hb); clear hb)
    go_ret
    exact ⟨rfl, HB3.out⟩
  have hln : ln l1 ≤ 6000 := HLN.out rfl
  have HWr := Lib.hid fun W h => write_any e0 p0 s0 (.slice a1 l1.length c1) l1 W h (by omega)
  have HRWr := Lib.hid fun W h => rwrite_any e0 p0 s0 (.slice a1 l1.length c1) l1 W h (by omega)
  clear HLN HLt hln
  generalize mk (wrV e0 p0 s0 l1) = T at *
  generalize wrE e0 p0 s0 l1 = E at *
  go_wp2_with (first | (go_at_call 17; refine (HWr.out _ (HSg.out _ HB.out)).mono ?_; rintro x x2 ⟨rfl, hb⟩; have HC := Lib.hid hb; obtain ⟨⟨d0, d1, d2⟩, -⟩ := HX.out _ hb; clear hb) | (go_at_call 18; refine (HRWr.out _ (HSg.out _ (HX.out _ HC.out).2)).mono ?_; rintro x x3 ⟨rfl, hb⟩; have HC2 := Lib.hid (below_trans HC.out hb); obtain ⟨⟨f0, f1, f2⟩, -⟩ := HX.out _ HC2.out; clear hb))
  have HC := Lib.hid (Below.drew HC2.out)
  go_region_held3 (fun w' => w'.cell? ⟨w.heap.size, 0, none⟩ = some (.int .u8 e0.toNat) ∧ w'.cell? ⟨w.heap.size, 1, none⟩ = some (.int .u8 p0.toNat) ∧ w'.cell? ⟨w.heap.size, 2, none⟩ = some (.int .u8 s0.toNat)) (go_keep) (first | (go_at_call 19; refine (HPl.out _).mono ?_; rintro x x5 ⟨rfl, hb⟩; have HC := Lib.hid (below_trans HC.out hb); obtain ⟨⟨g0, g1, g2⟩, -⟩ := HX.out _ HC.out; clear hb) | (go_at_call 20; refine (HRPl.out _).mono ?_; rintro x x6 ⟨rfl, hb⟩; have HC := Lib.hid (below_trans HC.out hb); obtain ⟨⟨g0, g1, g2⟩, -⟩ := HX.out _ HC.out; clear hb) | (go_at_call 15; refine (HWk.out _ (HX.out _ HC.out).2).mono ?_; rintro x x7 ⟨rfl, hb⟩; have HC := Lib.hid (below_trans HC.out hb); obtain ⟨⟨g0, g1, g2⟩, -⟩ := HX.out _ HC.out; have HBz := Lib.hid (HX.out _ HC.out).2; clear hb))
  all_goals
    go_wp2
    go_ret
    exact ⟨rfl, HBz.out⟩
end Go.Proofs.YtclbejgnaphekaaDoor
