/-
  WordsSplits holds for every text: the program's Split and the reference's answer the same words and the same fault.
-/
import Derived.Test.YtlabekdigehnnaaRows
import Derived.WalkKit
import Derived.ProofKit
import Derived.OpenShut
import Derived.ShutString
import Derived.Below
import Derived.Carry
import Derived.Laws.Cover2
import Derived.Test.YtlabekdigehnnaaWJoin
namespace Go.Proofs.Ytlabekdigehnnaa.wordsSplits
open Go.ChangeShapes Go.WideShapes Go.ChangeAt Go.RowKit
open Go.ChangeMaps (open_string)
open Go.Proofs.Ytlabekdigehnnaa.Wo
set_option linter.unusedVariables false

theorem own : ownKnob Try.prog.godebug = none := by kernel_rfl

/-! ### the walk: the law returns true -/
set_option maxHeartbeats 4000000 in
theorem walk (w : World) (a0 : ByteArray) (w0 : a0.size ≤ maxLen) :
    Calls Try.prog 3 #[.string a0] w fun e w' => e = .returned (.bool true) ∧ Below w.heap.size w w' := by
  have HWK := Lib.hid works_any
  by_cases hl : 70000 < a0.size
  · have hl' : (70000 : Int) < (a0.size : Int) := by omega
    clear hl
    go_enter Try.func3, Try.ntmps3
    go_wp2_with (go_at_call 8; refine (HWK.out _).mono ?_; rintro e w1 ⟨rfl, hb⟩; have HB := Lib.hid hb; clear hb)
    go_ret
    exact ⟨rfl, HB.out⟩
  have hl' : ¬ (70000 : Int) < (a0.size : Int) := by omega
  have HS := Lib.hid (fun W => split_any a0 W w0)
  have HR := Lib.hid (fun W => rsplit_any a0 W w0)
  have hvl := spV_len a0.data.toList
  generalize Wo.spE a0.data.toList = E at *
  generalize (Wo.spA a0.data.toList : Int) = A at *
  generalize Wo.spV a0.data.toList = V at *
  have HVL := Lib.hid hvl
  clear hl hvl
  go_enter Try.func3, Try.ntmps3
  go_wp2_with fail
  go_at_call 9
  refine (HS.out _).mono ?_
  rintro e w1 ⟨⟨u1, rfl, hu1⟩, hb1⟩
  have HB1 := Lib.hid hb1
  have HU1 := Lib.hid hu1
  obtain ⟨la, lc, rfl, -, -⟩ := WdsAt.form hu1
  clear hb1 hu1
  go_wp2_with fail
  go_at_call 10
  refine (HR.out _).mono ?_
  rintro e w2 ⟨⟨u2, rfl, hu2⟩, hb2⟩
  have hb3 := below_alloc w2 (.cells #[.int .i64 E, .int .i64 A] 26)
  obtain ⟨k0, k1, -, -⟩ := box_two (keepB (heap_alloc_new w1 (.cells #[.int .i64 E, .int .i64 A] 26)) (below_trans hb2 hb3))
  obtain ⟨p0, p1, -, -⟩ := box_two (heap_alloc_new w2 (.cells #[.int .i64 E, .int .i64 A] 26))
  have hq1 := WdsAt.move HU1.out (K' := All) (Moves.trans (moves_weak w1 fun _ _ _ => trivial) (Below.moves (below_trans (below_alloc w1 (.cells #[.int .i64 E, .int .i64 A] 26)) (below_trans hb2 hb3))))
  have hq2 := WdsAt.move hu2 (K' := All) (Moves.trans (moves_weak w2 fun _ _ _ => trivial) (Below.moves hb3))
  have HSM := Lib.hid (same_any _ _ V _ hq1 hq2 (by have := HVL.out; omega))
  have HB3 := Lib.hid (below_trans HB1.out (below_trans (below_alloc w1 _) (below_trans hb2 hb3)))
  obtain ⟨la2, lc2, rfl, -, -⟩ := WdsAt.form hu2
  clear hu2 hb2 hb3 hq1 hq2 HU1 HB1
  go_upto_region 5 with fail
  generalize w2.alloc (.cells #[.int .i64 E, .int .i64 A] 26) = w4 at *
  go_wp2_with (first | (go_at_call 11; refine HSM.out.mono ?_; rintro e w5 ⟨rfl, hb5⟩; have HB5 := Lib.hid (below_trans HB3.out hb5); clear hb5) | (go_at_call 8; refine (HWK.out _).mono ?_; rintro e w6 ⟨rfl, hb6⟩; have HB6 := Lib.hid (below_trans HB5.out hb6); clear hb6))
  go_ret
  exact ⟨rfl, HB6.out⟩

/-! ### the row's step -/
theorem laidOut : laidOutB Try.prog = true := by kernel_rfl
set_option maxRecDepth 100000 in
theorem lifted (os : Os) (started : os.Started) (H : Type) (enc : TypeId × Value → H) :
    ReturnsInHanded {} Try.checked os 3 .any (Rows.wordsSplitsSpec.pre6 enc Try.prog Try.f3 Rows.wordsSplitsRow.domain false) (Rows.wordsSplitsSpec.post enc Try.prog Try.f3 false true false false) := by
  refine returnsInHanded_of_change (C := Try.checked) own started (by kernel_rfl) Try.func3
    (ChangeSpec.witness6 (enc := enc) (C := Try.checked) false ⟨#[], #[.string ByteArray.empty], []⟩ 8 (by kernel_rfl) (by kernel_rfl) (by kernel_rfl) (by kernel_rfl)) ?_
  intro W base args ds gs before hval0 hW hcnd _
  have hval : ∀ (j : Nat) t v, Try.f3.params[j]? = some t → args[j]? = some v → Value.okWide Try.prog W .any base t v := hval0
  have hW' := hW
  obtain ⟨p, q, hA0, hV, rfl, hfz, hnd⟩ := hW
  have hA : DataW.TrodAll enc Try.prog W 0 (fun _ => true) true Try.f3.params.toList args.toList ds p := hA0
  rw [Try.params3] at hA hval
  obtain ⟨v0, vs0, d0, ds0, p0, q0, hargs, rfl, rfl, h0, r0⟩ := trodAll_cons hA
  obtain ⟨rfl, rfl, rfl⟩ := trodAll_nil r0
  obtain rfl : args = #[v0] := by cases args; simp_all
  obtain ⟨rfl, rfl⟩ := trodVars_none hV
  have k0 := h0
  have lt0 : ∀ x ∈ p0, x.block < W.heap.size := by obtain ⟨m, hm⟩ := k0; exact DataW.trod_lt m _ _ _ hm
  obtain ⟨a0, rfl, _, _, w0⟩ := open_string Try.underlying9 (hval 0 9 v0 rfl rfl) h0
  clear hA0 hval0
  refine (walk W a0 w0).mono fun e W' ⟨he, bel⟩ => ?_
  subst he
  exact ⟨_, rfl, _, _, _, [], _, [], hW', (trodAll_cons_mk (shut_bool Try.underlying4 _) trodAll_mk0), (trodAll_cons_mk (Below.trod laidOut (by kernel_rfl) (of_decide_eq_true (by kernel_rfl)) k0 bel lt0) trodAll_mk0), rfl, bel.frame _, fun h => by cases h⟩

theorem over : Rows.wordsSplitsRow.holds Try.pinned (OpenSpec.ofChange Rows.wordsSplitsSpec) :=
  OpenClaim.holds_of_wide 3 Try.f3 rfl rfl rfl rfl rfl rfl rfl ⟨rfl, rfl, rfl, rfl, rfl⟩ rfl rfl rfl rfl rfl (by kernel_rfl) Try.func3 (by kernel_rfl)
    (of_decide_eq_true (by kernel_rfl)) (by unfold Func.isWrapper; first | (rw [if_pos (by decide +kernel)]; kernel_rfl) | (rw [if_neg (by decide +kernel)]; exact ⟨rfl, rfl⟩))
    (fun os started H enc _ => lifted os started H enc)

/-- The statement. -/
theorem proved : Rows.WordsSplitsSaid := over
end Go.Proofs.Ytlabekdigehnnaa.wordsSplits
namespace Go.Proofs.Ytlabekdigehnnaa
theorem wordsSplits_holds : Rows.WordsSplitsSaid := wordsSplits.proved
#print axioms wordsSplits_holds
end Go.Proofs.Ytlabekdigehnnaa
