/-
  The laws' works, as a contract.
-/
import Derived.Test.YtbokhiaiihpeeaaULight
set_option linter.unusedSimpArgs false
set_option linter.unusedVariables false
set_option maxRecDepth 100000
namespace Go.Proofs.Ytbokhiaiihpeeaa.Ul
open Go.RowKit
open Pl (Cd St Ru Pn KsAt StsAt RusAt RuIn Ok1 cdv stv ruv pnv below_alloc below_trans bfive bsix beight below_tr)
open Wo (box_cell box_two keepB heap_far)
open Cm (Ln)

theorem tx_one (w : World) (T : TypeId) : TxAt All (w.alloc (.cells #[.string ⟨#[53, 57]⟩] T)) (.slice (some ⟨w.heap.size, 0, none⟩) 1 1) wkY.mods := by
  have h := heap_alloc_new w (.cells #[.string ⟨#[53, 57]⟩] T)
  refine ⟨_, _, rfl, Nat.le_refl _, by decide, Or.inr ⟨_, _, rfl, trivial, (Array.getElem?_eq_some_iff.1 h).1, fun j x hj => ?_⟩⟩
  have c := cell_of_row (w.alloc (.cells #[.string ⟨#[53, 57]⟩] T)) w.heap.size 0 _ _ (0, 0) h
  match j, hj with
  | 0, hj =>
    obtain rfl : [53, 57] = x := Option.some.inj hj
    exact ⟨_, c, rfl⟩
  | n + 1, hj => simp [wkY] at hj
set_option maxHeartbeats 16000000 in
theorem works_any (w : World) : Calls Try.prog 10 #[] w fun e w' => e = .returned (.bool true) ∧ Below w.heap.size w w' := by
  obtain ⟨hb, hpb, hru, hin, hrr⟩ := wk_mem w
  have HB := Lib.hid hb
  have HPB := Lib.hid hpb
  have HRu := Lib.hid hru
  have HIn := Lib.hid hin
  have HRR := Lib.hid hrr
  clear hb hpb hru hin hrr
  go_enter Try.func10, Try.ntmps10
  go_upto_region 2 with fail
  generalize (((w.alloc (.cells #[.int .i64 1, .int .i64 1, .int .i64 4, .int .i64 2000] 45)).alloc (.cells #[.int .i64 4, .int .i64 100] 45)).alloc (.cells #[.int .i64 1, .int .i64 0, .string ⟨#[]⟩, .string ⟨#[]⟩, .int .i64 0, .slice none 0 0, .slice none 0 0, .slice (some ⟨w.heap.size, 0, none⟩) 2 2, .int .i64 5, .int .i64 2, .string ⟨#[53, 57]⟩, .string ⟨#[]⟩, .int .i64 0, .slice none 0 0, .slice none 0 0, .slice (some ⟨w.heap.size + 1, 0, none⟩) 1 1] 27)).alloc (.cells #[.int .i64 0, .int .i64 0, .int .i64 0, .int .i64 0, .int .i64 0, .slice (some ⟨w.heap.size + 1 + 1, 0, none⟩) 2 2] 34) = W at *
  generalize w.heap.size + 1 + 1 + 1 = pb at *
  generalize w.heap.size + 1 + 1 = rr at *
  generalize w.heap.size + 1 = ss at *
  generalize hp : w.heap.size = p0 at *
  have HRa : Hid (Calls Try.prog 15 #[.agg #[.int .i64 0, .int .i64 0, .int .i64 0, .int .i64 0, .int .i64 0, .slice (some ⟨rr, 0, none⟩) 2 2], .agg #[.string ⟨#[57, 57, 50, 49, 51]⟩, .slice none 0 0, .int .i64 0, .int .i64 0, .int .i64 0, .int .i64 0], .int .i64 0] W fun e w' => e = .returned (.agg #[.bool true, .bool false, .int .i64 0, .int .i64 2000]) ∧ Below W.heap.size W w') := by
    have h := res_any wkP _ wkX (.slice none 0 0) 0 W HRu.out (TxAt.nil _ _)
    rw [wk_a] at h
    exact h
  obtain ⟨x0, x1, x2, x3, x4, x5⟩ := bsix HPB.out
  go_wp2_with fail
  go_at_call 15
  refine HRa.out.mono ?_
  rintro e w1 ⟨rfl, hb1⟩
  have hc1 := below_trans hb1 (below_alloc w1 (.cells #[.bool true, .bool false, .int .i64 0, .int .i64 2000] 39))
  have HA1 := Lib.hid (heap_alloc_new w1 (.cells #[.bool true, .bool false, .int .i64 0, .int .i64 2000] 39))
  have HB1 := Lib.hid (below_tr hp HB.out hc1)
  have HPB1 := Lib.hid (keepB HPB.out hc1)
  have HRu1 := Lib.hid (HRu.out.grw hc1)
  have HIn1 := Lib.hid (HIn.out.move (Below.moves hc1))
  have HRR1 := Lib.hid (keepB HRR.out hc1)
  clear hb1 hc1 HRa HB HPB HRu HIn HRR x0 x1 x2 x3 x4 x5
  go_upto_region 3 with fail
  generalize w1.alloc (.cells #[.bool true, .bool false, .int .i64 0, .int .i64 2000] 39) = W1 at *
  generalize w1.heap.size = ba at *
  have hc2 := below_alloc W1 (.cells #[.string ⟨#[53, 57]⟩] 9)
  have HTx := Lib.hid (tx_one W1 9)
  have HRb : Hid (Calls Try.prog 15 #[.agg #[.int .i64 0, .int .i64 0, .int .i64 0, .int .i64 0, .int .i64 0, .slice (some ⟨rr, 0, none⟩) 2 2], .agg #[.string ⟨#[57, 57, 50, 49, 51]⟩, .slice (some ⟨W1.heap.size, 0, none⟩) 1 1, .int .i64 0, .int .i64 0, .int .i64 0, .int .i64 0], .int .i64 0] (W1.alloc (.cells #[.string ⟨#[53, 57]⟩] 9)) fun e w' => e = .returned (.agg #[.bool true, .bool false, .int .i64 0, .int .i64 100]) ∧ Below (W1.alloc (.cells #[.string ⟨#[53, 57]⟩] 9)).heap.size (W1.alloc (.cells #[.string ⟨#[53, 57]⟩] 9)) w') := by
    have h := res_any wkP _ wkY (.slice (some ⟨W1.heap.size, 0, none⟩) 1 1) 0 _ (HRu1.out.grw hc2) HTx.out
    rw [wk_b] at h
    exact h
  obtain ⟨x0, x1, x2, x3, x4, x5⟩ := bsix HPB1.out
  go_wp2_with fail
  go_at_call 15
  refine HRb.out.mono ?_
  rintro e w2 ⟨rfl, hb2⟩
  have hc3 := below_trans (below_trans hc2 hb2) (below_alloc w2 (.cells #[.bool true, .bool false, .int .i64 0, .int .i64 100] 39))
  have HA2 := Lib.hid (heap_alloc_new w2 (.cells #[.bool true, .bool false, .int .i64 0, .int .i64 100] 39))
  have HA1' := Lib.hid (keepB HA1.out hc3)
  have HB2 := Lib.hid (below_tr hp HB1.out hc3)
  have HPB2 := Lib.hid (keepB HPB1.out hc3)
  have HIn2 := Lib.hid (HIn1.out.move (Below.moves hc3))
  have HRR2 := Lib.hid (keepB HRR1.out hc3)
  clear hb2 hc2 hc3 HRb HTx HA1 HB1 HPB1 HRu1 HIn1 HRR1 x0 x1 x2 x3 x4 x5
  go_upto_region 4 with fail
  generalize w2.alloc (.cells #[.bool true, .bool false, .int .i64 0, .int .i64 100] 39) = W2 at *
  generalize w2.heap.size = bb at *
  have HH : Hid (Calls Try.prog 11 #[.agg #[.int .i64 5, .string ⟨#[]⟩, .string ⟨#[]⟩, .int .i64 0, .slice none 0 0], .agg #[.string ⟨#[]⟩, .slice none 0 0, .int .i64 0, .int .i64 0, .int .i64 0, .int .i64 0], .int .i64 1] W2 fun e w' => e = .returned (.bool true) ∧ Below W2.heap.size W2 w') := by
    have h := hold_any wkZ 1 (.slice none 0 0) _ ⟨5, [], [], 0, []⟩ (Nat.lt_succ_self _) (.slice none 0 0) W2 (KsAt.nil _ _) (TxAt.nil _ _)
    unfold HoldsC at h
    rw [wk_h] at h
    exact h
  have HAp : Hid (∀ W', Below W2.heap.size W2 W' → Calls Try.prog 13 #[.agg #[.int .i64 5, .int .i64 2, .string ⟨#[53, 57]⟩, .string ⟨#[]⟩, .int .i64 0, .slice none 0 0, .slice none 0 0, .slice (some ⟨ss, 0, none⟩) 1 1], .agg #[.string ⟨#[]⟩, .slice none 0 0, .int .i64 0, .int .i64 0, .int .i64 0, .int .i64 0], .int .i64 0] W' fun e w' => e = .returned (.bool false) ∧ Below W'.heap.size W' w') := fun W' hW => by
    have h := app_any wkZ 0 (.slice none 0 0) wkR1 _ _ _ W' (HIn2.out.move (Below.moves hW)) (TxAt.nil _ _)
    rw [wk_r] at h
    exact h
  have HXK := Lib.hid fun W' (hW : Below W2.heap.size W2 W') => And.intro (bsix (keepB HPB2.out hW)) (fun j => cell_of_row W' rr j _ _ (0, 0) (keepB HRR2.out hW))
  obtain ⟨⟨a0, a1, a2, a3⟩, -⟩ := bfour HA1'.out
  obtain ⟨⟨b0, b1, b2, b3⟩, -⟩ := bfour HA2.out
  go_wp2_with fail
  go_at_call 11
  refine HH.out.mono ?_
  rintro e w3 ⟨rfl, hb3⟩
  have HB3 := Lib.hid (below_tr hp HB2.out hb3)
  have HAq := Lib.hid (HAp.out _ hb3)
  obtain ⟨⟨x0, x1, x2, x3, x4, x5⟩, hcc⟩ := HXK.out _ hb3
  have c0 : w3.cell? ⟨rr, 8, none⟩ = some (.int .i64 5) := hcc 8
  have c1 : w3.cell? ⟨rr, 9, none⟩ = some (.int .i64 2) := hcc 9
  have c2 : w3.cell? ⟨rr, 10, none⟩ = some (.string ⟨#[53, 57]⟩) := hcc 10
  have c3 : w3.cell? ⟨rr, 11, none⟩ = some (.string ⟨#[]⟩) := hcc 11
  have c4 : w3.cell? ⟨rr, 12, none⟩ = some (.int .i64 0) := hcc 12
  have c5 : w3.cell? ⟨rr, 13, none⟩ = some (.slice none 0 0) := hcc 13
  have c6 : w3.cell? ⟨rr, 14, none⟩ = some (.slice none 0 0) := hcc 14
  have c7 : w3.cell? ⟨rr, 15, none⟩ = some (.slice (some ⟨ss, 0, none⟩) 1 1) := hcc 15
  clear hb3 hcc HXK HAp HH HB2 HPB2 HIn2 HRR2 HA1' HA2 a0 a1 a2 a3 b0 b1 b2 b3
  go_wp2_with (go_at_call 13; refine HAq.out.mono ?_; rintro e w4 ⟨rfl, hb4⟩; have HB4 := Lib.hid (below_tr hp HB3.out hb4); clear hb4)
  go_ret
  exact ⟨rfl, by first | exact HB4.out | (rw [hp]; exact HB4.out)⟩
end Go.Proofs.Ytbokhiaiihpeeaa.Ul
