/-
  The laws' example: that works answers true.
-/
import Derived.Test.YtclbejgnaphekaaDoorQSplit
import Derived.Test.YtclbejgnaphekaaDoorQFind
set_option linter.unusedSimpArgs false
namespace Go.Proofs.YtclbejgnaphekaaDoor
open Go.RowKit

def exT : Tx := [67, 76, 77, 42, 97, 58, 98, 42, 126, 88, 126]
def exG : List Sg := [[[[67, 76, 77]], [[97], [98]], [[]]], [[[88]]]]
theorem ex_sp : spE 42 58 126 exT = 0 ∧ spV 42 58 126 exT = exG := by
  have h : spE 42 58 126 exT = 0 := by decide
  exact ⟨h, by unfold spV; rw [if_pos h]; decide⟩
theorem ex_wr : wrV 42 58 126 exG = exT ∧ wrE 42 58 126 exG = 0 := by decide
theorem ex_fd : findO [73, 83, 65, 42, 58, 126, 71, 83, 42, 49, 126] = some (42, 58, 126) := by decide
theorem ex_no : findO [73, 83, 65, 97, 98, 99] = none := by decide

set_option maxHeartbeats 2000000 in
theorem works_any (w : World) (hT : Tab w) :
    Calls Tryd.prog 15 #[] w fun x w' => x = .returned (.bool true) ∧ Below w.heap.size w w' := by
  have HTb := Lib.hid hT
  clear hT
  have HF1 := Lib.hid (find_any ⟨#[73, 83, 65, 42, 58, 126, 71, 83, 42, 49, 126]⟩ w (by simp only [maxLen]; decide))
  rw [show (⟨#[73, 83, 65, 42, 58, 126, 71, 83, 42, 49, 126]⟩ : ByteArray).data.toList = [73, 83, 65, 42, 58, 126, 71, 83, 42, 49, 126] from rfl, ex_fd] at HF1
  have HF2 := Lib.hid fun W => find_any ⟨#[73, 83, 65, 97, 98, 99]⟩ W (by simp only [maxLen]; decide)
  rw [show (⟨#[73, 83, 65, 97, 98, 99]⟩ : ByteArray).data.toList = [73, 83, 65, 97, 98, 99] from rfl, ex_no] at HF2
  have HSp := Lib.hid fun W h => split_any 42 58 126 ⟨#[67, 76, 77, 42, 97, 58, 98, 42, 126, 88, 126]⟩ W h (by simp only [maxLen]; decide)
  rw [show (⟨#[67, 76, 77, 42, 97, 58, 98, 42, 126, 88, 126]⟩ : ByteArray).data.toList = exT from rfl, ex_sp.1, ex_sp.2] at HSp
  have HWr := Lib.hid fun W u h => write_any 42 58 126 u exG W h (by decide)
  rw [ex_wr.1, ex_wr.2] at HWr
  have HHd := Lib.hid fun W => head_any 42 58 126 W
  have HU : Hid (∀ W u, SgAt All W u exG → ∃ b o c, u = .slice (some ⟨b, o, none⟩) 2 c ∧ 2 ≤ c ∧ c ≤ maxLen) := fun W u h => by
    obtain ⟨a, c, rfl, h1, h2, h3⟩ := h
    rcases h3 with h3 | ⟨b, o, rfl, -⟩
    · cases h3
    · exact ⟨b, o, c, rfl, h1, h2⟩
  have HCl : Hid (∀ W b o c, SgAt All W (.slice (some ⟨b, o, none⟩) 2 c) exG → ∃ b0 o0 c0 a1 c1, W.cell? ⟨b, o, none⟩ = some (.slice (some ⟨b0, o0, none⟩) 3 c0) ∧ W.cell? ⟨b0, o0 + 1, none⟩ = some (.slice a1 2 c1) ∧ 3 ≤ c0) := fun W b o c h => by
    obtain ⟨b', o', u, e1, -, hu, hr⟩ := RowAt.get h 0 (by decide)
    simp only [Option.some.injEq, Addr.mk.injEq] at e1
    obtain ⟨rfl, rfl, -⟩ := e1
    obtain ⟨a0, c0, e0, h01, -, h02⟩ := hr
    rcases h02 with h02 | ⟨b0, o0, e2, -, -, h03⟩
    · cases h02
    · obtain ⟨u1, hu1, a1, c1, e3, -⟩ := h03 1 [[97], [98]] rfl
      refine ⟨b0, o0, c0, a1, c1, ?_, ?_, h01⟩
      · rw [Nat.add_zero] at hu; rw [hu, e0, e2]; rfl
      · rw [hu1, e3]; rfl
  have G1 : Hid (Calls Tryd.prog 9 #[.string ⟨#[73, 83, 65, 42, 58, 126, 71, 83, 42, 49, 126]⟩] w fun x w' => x = .returned (.tuple #[.agg #[.int .u8 42, .int .u8 58, .int .u8 126], .int .i64 0]) ∧ Below w.heap.size w w') := HF1.out
  have G2 : Hid (∀ W, Calls Tryd.prog 9 #[.string ⟨#[73, 83, 65, 97, 98, 99]⟩] W fun x w' => x = .returned (.tuple #[.agg #[.int .u8 0, .int .u8 0, .int .u8 0], .int .i64 5]) ∧ Below W.heap.size W w') := HF2.out
  have G3 : Hid (∀ W, Tab W → Calls Tryd.prog 21 #[.agg #[.int .u8 42, .int .u8 58, .int .u8 126], .string ⟨#[67, 76, 77, 42, 97, 58, 98, 42, 126, 88, 126]⟩] W fun x w' => (∃ u, x = .returned (.tuple #[u, .int .i64 0]) ∧ SgAt All w' u exG) ∧ Below W.heap.size W w') := HSp.out
  have G4 : Hid (∀ W u, SgAt All W u exG → Calls Tryd.prog 17 #[.agg #[.int .u8 42, .int .u8 58, .int .u8 126], u] W fun x w' => x = .returned (.tuple #[.string ⟨#[67, 76, 77, 42, 97, 58, 98, 42, 126, 88, 126]⟩, .int .i64 0]) ∧ Below W.heap.size W w') := HWr.out
  have G5 : Hid (∀ W, Calls Tryd.prog 13 #[.agg #[.int .u8 42, .int .u8 58, .int .u8 126]] W fun x w' => x = .returned (.string ⟨#[73, 83, 65, 42, 58, 126]⟩) ∧ Below W.heap.size W w') := HHd.out
  clear HF1 HF2 HSp HWr HHd
  have HBX : Hid (∀ w1 : World, DBox (w1.alloc (.cells #[.int .u8 42, .int .u8 58, .int .u8 126] 23)) w1.heap.size 42 58 126) := fun w1 => DBox.new w1 42 58 126
  have HD3 : Hid (∀ W b, DBox W b 42 58 126 → W.cell? ⟨b, 0, none⟩ = some (.int .u8 42) ∧ W.cell? ⟨b, 1, none⟩ = some (.int .u8 58) ∧ W.cell? ⟨b, 2, none⟩ = some (.int .u8 126)) := fun W b h => h.2
  have HAL : Hid (∀ (W : World) a v, W.cell? a = some v → ∀ o, (W.alloc o).cell? a = some v) := fun W a v h o => by rw [World.cell?_alloc_some _ _ _ (by rw [h]; rfl)]; exact h
  go_enter Tryd.func15, Tryd.ntmps15
  go_upto_region 2 with (go_at_call 9; refine G1.out.mono ?_; rintro x w1 ⟨rfl, hb⟩; have HB1 := Lib.hid hb; clear hb)
  have HBa := Lib.hid (below_trans HB1.out (below_alloc w1 (.cells #[.int .u8 42, .int .u8 58, .int .u8 126] 23)))
  go_upto_region 3 with (go_at_call 21; refine (G3.out _ (tab_grw HTb.out HBa.out)).mono ?_; rintro x w2 ⟨⟨u, rfl, hsg⟩, hb⟩; have HB2 := Lib.hid hb; have HSG := Lib.hid hsg; clear hb hsg)
  obtain ⟨b, o, c, rfl, hc1, hc2⟩ := HU.out _ _ HSG.out
  unfold maxLen at hc2
  have HX2 := Lib.hid (DBox.grw (HBX.out w1) HB2.out)
  obtain ⟨d0, d1, d2⟩ := HD3.out _ _ HX2.out
  go_upto_region 4 with (go_at_call 17; refine (G4.out _ _ HSG.out).mono ?_; rintro x w3 ⟨rfl, hb⟩; have HB3 := Lib.hid hb; clear hb)
  go_upto_region 5 with (go_at_call 9; refine (G2.out _).mono ?_; rintro x w4 ⟨rfl, hb⟩; have HB4 := Lib.hid hb; clear hb)
  have HX4 := Lib.hid (DBox.grw (DBox.grw HX2.out HB3.out) HB4.out)
  clear d0 d1 d2
  obtain ⟨d0, d1, d2⟩ := HD3.out _ _ (DBox.grw HX4.out (below_alloc w4 (.cells #[.int .u8 0, .int .u8 0, .int .u8 0] 23)))
  obtain ⟨b0, o0, c0, a1, c1, k1, k2, k3⟩ := HCl.out _ _ _ _ (SgAt.move HSG.out (Below.moves (below_trans HB3.out HB4.out)))
  have k1' := HAL.out _ _ _ k1
  have k2' := HAL.out _ _ _ k2
  clear k1 k2
  have HBe := Lib.hid (below_trans HBa.out (below_trans HB2.out (below_trans HB3.out (below_trans HB4.out (below_alloc w4 (.cells #[.int .u8 0, .int .u8 0, .int .u8 0] 23))))))
  go_wp2_with (go_at_call 13; refine (G5.out _).mono ?_; rintro x w5 ⟨rfl, hb⟩; have HB5 := Lib.hid hb; clear hb)
  go_ret
  exact ⟨rfl, below_trans HBe.out HB5.out⟩
end Go.Proofs.YtclbejgnaphekaaDoor
