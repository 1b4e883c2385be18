/-
  Texts put together (merge.py): PWorks.
-/
import Derived.Test.YtfkhehkfeibdpaaGreatDoorMc43
/-
  What layer 10's works answers: true.
-/
section
set_option linter.unusedSimpArgs false
set_option linter.unusedVariables false
set_option maxRecDepth 100000
namespace Go.Proofs.YtfkhehkfeibdpaaGreatDoor.Pl
open Go.RowKit
open Wo (Wd WdsAt box_cell box_two keepB heap_far)

theorem eq_self (x : Tx) : ((mk x).toList == (mk x).toList) = true := by simp
set_option maxHeartbeats 16000000 in
theorem works_any (w : World) (hT : Nu.Tab w) : Calls Tryz.prog 8 #[] w fun e w' => e = .returned (.bool true) ∧ Below w.heap.size w w' := by
  have HS1 : Hid (∀ W, Calls Tryz.prog 13 #[.string (mk wkT1)] W fun e w' => (∃ (a : Option Addr) (n c : Nat), e = .returned (.tuple #[pnv wkP (.slice a n c), .agg #[.int .i64 0, .int .i64 0]]) ∧ RusAt All w' (.slice a n c) wkP.rules) ∧ Below W.heap.size W w') := fun W => by
    refine (parse_any (mk wkT1) W (by rw [mk_size]; decide +kernel)).mono ?_
    rintro e w' ⟨h1, h2⟩
    rw [mk_list, wk_parse] at h1
    obtain ⟨a, n, c, rfl, h3, -⟩ := h1
    exact ⟨⟨a, n, c, rfl, h3.move (moves_weak _ fun _ _ _ => trivial)⟩, h2⟩
  have HS3 : Hid (∀ W, Calls Tryz.prog 13 #[.string (mk wkT3)] W fun e w' => e = .returned (.tuple #[pnv pn0 (.slice none 0 0), .agg #[.int .i64 4, .int .i64 14]]) ∧ Below W.heap.size W w') := fun W => by
    refine (parse_any (mk wkT3) W (by rw [mk_size]; decide +kernel)).mono ?_
    rintro e w' ⟨h1, h2⟩
    rw [mk_list, wk_fault] at h1
    exact ⟨h1, h2⟩
  have HPr := Lib.hid fun (W : World) m (h : RusAt All W m wkP.rules) (hW : Below w.heap.size w W) => print_any wkP m W h (Nu.tab_grw hT hW) (fun _ => wk_size)
  rw [wk_print, wk_ok] at HPr
  have HCk : Hid (∀ W, Calls Tryz.prog 9 #[.agg #[.int .i64 2, .int .i64 0, .int .i64 0, .int .i64 0, .int .i64 0, .slice none 0 0]] W fun e w' => e = .returned (.int .i64 15) ∧ Below W.heap.size W w') := fun W => check_any ⟨2, 0, 0, 0, 0, []⟩ (.slice none 0 0) W (RusAt.nil _ _)
  have hT2 : (mk wkT2).toList = wkT2 := by rw [Lib.toList_data, mk_list]
  go_enter Tryz.func8, Tryz.ntmps8
  go_wp2_with fail
  go_at_call 13
  refine (HS1.out _).mono ?_
  rintro e w1 ⟨⟨a, n, c, rfl, hr⟩, hb1⟩
  obtain ⟨a', c', ea, -, -, -⟩ := hr.form
  obtain ⟨rfl, rfl, rfl⟩ : a = a' ∧ n = 1 ∧ c = c' := by injection ea with e1 e2 e3; exact ⟨e1, e2, e3⟩
  have hb2 := below_trans (below_alloc w1 (.cells #[.int .i64 wkP.mode, .int .i64 wkP.indDed, .int .i64 wkP.famDed, .int .i64 wkP.indOop, .int .i64 wkP.famOop, .slice a 1 c] 24)) (below_alloc _ (.cells #[.int .i64 0, .int .i64 0] 32))
  have HR2 := Lib.hid (hr.grw hb2)
  have HB2 := Lib.hid (below_trans hb1 hb2)
  have HP2 := Lib.hid (keepB (heap_alloc_new w1 (.cells #[.int .i64 wkP.mode, .int .i64 wkP.indDed, .int .i64 wkP.famDed, .int .i64 wkP.indOop, .int .i64 wkP.famOop, .slice a 1 c] 24)) (below_alloc _ (.cells #[.int .i64 0, .int .i64 0] 32)))
  have h2 := heap_alloc_new (w1.alloc (.cells #[.int .i64 wkP.mode, .int .i64 wkP.indDed, .int .i64 wkP.famDed, .int .i64 wkP.indOop, .int .i64 wkP.famOop, .slice a 1 c] 24)) (.cells #[.int .i64 0, .int .i64 0] 32)
  rw [show (w1.alloc (.cells #[.int .i64 wkP.mode, .int .i64 wkP.indDed, .int .i64 wkP.famDed, .int .i64 wkP.indOop, .int .i64 wkP.famOop, .slice a 1 c] 24)).heap.size = w1.heap.size + 1 by simp] at h2
  have HF2 := Lib.hid h2
  clear hb1 hb2 h2 hr ea
  go_upto_region 2 with fail
  generalize (w1.alloc (.cells #[.int .i64 wkP.mode, .int .i64 wkP.indDed, .int .i64 wkP.famDed, .int .i64 wkP.indOop, .int .i64 wkP.famOop, .slice a 1 c] 24)).alloc (.cells #[.int .i64 0, .int .i64 0] 32) = W2 at *
  generalize w1.heap.size = b1 at *
  obtain ⟨p0, p1, p2, p3, p4, p5⟩ := bsix HP2.out
  go_wp2_with fail
  go_at_call 11
  refine (HPr.out W2 _ HR2.out HB2.out).mono ?_
  rintro e w3 ⟨rfl, hb3⟩
  have HP3 := Lib.hid (keepB HP2.out hb3)
  have HF3 := Lib.hid (keepB HF2.out hb3)
  have HB3 := Lib.hid (below_trans HB2.out hb3)
  clear hb3 HP2 HF2 HB2 HR2 HPr p0 p1 p2 p3 p4 p5
  go_wp2_with fail
  go_at_call 13
  refine (HS3.out _).mono ?_
  rintro e w4 ⟨rfl, hb4⟩
  have hb5 := below_trans (below_alloc w4 (.cells #[.int .i64 pn0.mode, .int .i64 pn0.indDed, .int .i64 pn0.famDed, .int .i64 pn0.indOop, .int .i64 pn0.famOop, .slice none 0 0] 24)) (below_alloc _ (.cells #[.int .i64 4, .int .i64 14] 32))
  have HP5 := Lib.hid (keepB (keepB HP3.out hb4) hb5)
  have HF5 := Lib.hid (keepB (keepB HF3.out hb4) hb5)
  have HB5 := Lib.hid (below_trans HB3.out (below_trans hb4 hb5))
  have h2 := heap_alloc_new (w4.alloc (.cells #[.int .i64 pn0.mode, .int .i64 pn0.indDed, .int .i64 pn0.famDed, .int .i64 pn0.indOop, .int .i64 pn0.famOop, .slice none 0 0] 24)) (.cells #[.int .i64 4, .int .i64 14] 32)
  rw [show (w4.alloc (.cells #[.int .i64 pn0.mode, .int .i64 pn0.indDed, .int .i64 pn0.famDed, .int .i64 pn0.indOop, .int .i64 pn0.famOop, .slice none 0 0] 24)).heap.size = w4.heap.size + 1 by simp] at h2
  have HG5 := Lib.hid h2
  clear hb4 hb5 h2 HP3 HF3 HB3 HS1 HS3
  go_upto_region 4 with fail
  generalize (w4.alloc (.cells #[.int .i64 pn0.mode, .int .i64 pn0.indDed, .int .i64 pn0.famDed, .int .i64 pn0.indOop, .int .i64 pn0.famOop, .slice none 0 0] 24)).alloc (.cells #[.int .i64 4, .int .i64 14] 32) = W5 at *
  generalize w4.heap.size = b4 at *
  obtain ⟨p0, p1, p2, p3, p4, p5⟩ := bsix HP5.out
  obtain ⟨f0, f1, -, -⟩ := box_two HF5.out
  obtain ⟨g0, g1, -, -⟩ := box_two HG5.out
  have HE2 : Hid ((mk wkT2).toList = wkT2) := hT2
  clear hT2
  go_wp2_with (first | (go_at_call 9; refine (HCk.out _).mono ?_; rintro e w6 ⟨rfl, hb6⟩; have HB6 := Lib.hid hb6; clear hb6))
  go_ret
  exact ⟨rfl, below_trans HB5.out HB6.out⟩
end Go.Proofs.YtfkhehkfeibdpaaGreatDoor.Pl
end
