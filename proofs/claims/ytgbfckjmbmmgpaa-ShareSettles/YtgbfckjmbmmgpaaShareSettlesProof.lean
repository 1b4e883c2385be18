/-
  ShareSettles holds for all numbers: what becomes of a service, and of one that is denied, is what the chapter says.
-/
import Derived.Test.YtgbfckjmbmmgpaaRows
import Derived.WalkKit
import Derived.ProofKit
import Derived.OpenShut
import Derived.Below
import Derived.Carry
import Derived.Laws.Cover2
import Derived.Test.YtgbfckjmbmmgpaaHWorks
import Derived.Test.YtgbfckjmbmmgpaaHRSettle
import Derived.Test.YtgbfckjmbmmgpaaHOpen
namespace Go.Proofs.Ytgbfckjmbmmgpaa.shareSettles
open Go.ChangeShapes Go.WideShapes Go.ChangeAt Go.RowKit
open Sh
set_option linter.unusedVariables false
set_option linter.unusedSimpArgs false
set_option maxRecDepth 100000

theorem own : ownKnob Try.prog.godebug = none := by kernel_rfl

/-! ### the walk: the law returns true -/
set_option maxHeartbeats 16000000 in
theorem walk (w : World) (x00 x01 x02 x03 x04 x05 : Int) (a1 : Int) (h1 : Ho.I64 a1) :
    Calls Try.prog 4 #[.agg #[.int .i64 x00, .int .i64 x01, .int .i64 x02, .int .i64 x03, .int .i64 x04, .int .i64 x05], .int .i64 a1] w fun e w' => e = .returned (.bool true) ∧ Below w.heap.size w w' := by
  have H1 := Lib.hid (settle_any x00 x01 x02 x03 x04 x05)
  have H2 := Lib.hid (rsettle_any x00 x01 x02 x03 x04 x05)
  have H3 := Lib.hid (refuse_any x00 x02 a1)
  have H4 := Lib.hid (rrefuse_any x00 x02 a1)
  generalize setV x00 x01 x02 x03 x04 x05 = O at *
  generalize setE x00 x01 x02 x03 x04 x05 = E at *
  generalize refV x00 x02 a1 = R at *
  generalize refE x00 x02 a1 = G at *
  have HX0 := Lib.hid (alloc_new w #[.int .i64 x00, .int .i64 x01, .int .i64 x02, .int .i64 x03, .int .i64 x04, .int .i64 x05] 29)
  have HB0 := Lib.hid (below_alloc w (.cells #[.int .i64 x00, .int .i64 x01, .int .i64 x02, .int .i64 x03, .int .i64 x04, .int .i64 x05] 29))
  go_enter Try.func4, Try.ntmps4
  go_upto_region 1 with fail
  generalize w.alloc (.cells #[.int .i64 x00, .int .i64 x01, .int .i64 x02, .int .i64 x03, .int .i64 x04, .int .i64 x05] 29) = w0 at *
  generalize hp : w.heap.size = p at *
  have HP0 : Hid (p ≤ w0.heap.size) := Nat.le_of_lt (lt_of_block HX0.out)
  obtain ⟨s0, s1, s2, s3, s4, s5⟩ := bsix HX0.out
  go_wp2_with fail
  go_at_call 12
  refine (H1.out _).mono ?_
  rintro e w1 ⟨rfl, hb⟩
  have HX1 := Lib.hid (keepB HX0.out hb)
  have HB1 := Lib.hid (below_on HB0.out hb HP0.out)
  have HP1 : Hid (p ≤ w1.heap.size) := Nat.le_of_lt (lt_of_block HX1.out)
  clear hb
  clear s0 s1 s2 s3 s4 s5
  obtain ⟨s0, s1, s2, s3, s4, s5⟩ := bsix HX1.out
  have HX2 := Lib.hid (keepB HX1.out (below_alloc w1 (.cells #[.int .i64 O.al, .int .i64 O.de, .int .i64 O.cp, .int .i64 O.cn, .int .i64 O.plan, .int .i64 O.wr, .int .i64 O.pr, .int .i64 O.deny] 31)))
  have HB2 := Lib.hid (below_on HB1.out (below_alloc w1 (.cells #[.int .i64 O.al, .int .i64 O.de, .int .i64 O.cp, .int .i64 O.cn, .int .i64 O.plan, .int .i64 O.wr, .int .i64 O.pr, .int .i64 O.deny] 31)) HP1.out)
  have HOq1 := Lib.hid (alloc_new w1 #[.int .i64 O.al, .int .i64 O.de, .int .i64 O.cp, .int .i64 O.cn, .int .i64 O.plan, .int .i64 O.wr, .int .i64 O.pr, .int .i64 O.deny] 31)
  go_upto_region 2 with fail
  generalize w1.alloc (.cells #[.int .i64 O.al, .int .i64 O.de, .int .i64 O.cp, .int .i64 O.cn, .int .i64 O.plan, .int .i64 O.wr, .int .i64 O.pr, .int .i64 O.deny] 31) = w2 at *
  generalize w1.heap.size = q1 at *
  have HP2 : Hid (p ≤ w2.heap.size) := Nat.le_of_lt (lt_of_block HX2.out)
  clear s0 s1 s2 s3 s4 s5
  obtain ⟨s0, s1, s2, s3, s4, s5⟩ := bsix HX2.out
  go_wp2_with fail
  go_at_call 13
  refine (H2.out _).mono ?_
  rintro e w3 ⟨rfl, hb⟩
  have HX3 := Lib.hid (keepB HX2.out hb)
  have HB3 := Lib.hid (below_on HB2.out hb HP2.out)
  have HP3 : Hid (p ≤ w3.heap.size) := Nat.le_of_lt (lt_of_block HX3.out)
  have HOq1_ := Lib.hid (keepB HOq1.out hb)
  clear HOq1
  have HOq1 := HOq1_
  clear HOq1_
  clear hb
  clear s0 s1 s2 s3 s4 s5
  obtain ⟨s0, s1, s2, s3, s4, s5⟩ := bsix HX3.out
  have HX4 := Lib.hid (keepB HX3.out (below_alloc w3 (.cells #[.int .i64 O.al, .int .i64 O.de, .int .i64 O.cp, .int .i64 O.cn, .int .i64 O.plan, .int .i64 O.wr, .int .i64 O.pr, .int .i64 O.deny] 31)))
  have HB4 := Lib.hid (below_on HB3.out (below_alloc w3 (.cells #[.int .i64 O.al, .int .i64 O.de, .int .i64 O.cp, .int .i64 O.cn, .int .i64 O.plan, .int .i64 O.wr, .int .i64 O.pr, .int .i64 O.deny] 31)) HP3.out)
  have HOq2 := Lib.hid (alloc_new w3 #[.int .i64 O.al, .int .i64 O.de, .int .i64 O.cp, .int .i64 O.cn, .int .i64 O.plan, .int .i64 O.wr, .int .i64 O.pr, .int .i64 O.deny] 31)
  have HOq1_ := Lib.hid (keepB HOq1.out (below_alloc w3 (.cells #[.int .i64 O.al, .int .i64 O.de, .int .i64 O.cp, .int .i64 O.cn, .int .i64 O.plan, .int .i64 O.wr, .int .i64 O.pr, .int .i64 O.deny] 31)))
  clear HOq1
  have HOq1 := HOq1_
  clear HOq1_
  go_upto_region 3 with fail
  generalize w3.alloc (.cells #[.int .i64 O.al, .int .i64 O.de, .int .i64 O.cp, .int .i64 O.cn, .int .i64 O.plan, .int .i64 O.wr, .int .i64 O.pr, .int .i64 O.deny] 31) = w4 at *
  generalize w3.heap.size = q2 at *
  have HP4 : Hid (p ≤ w4.heap.size) := Nat.le_of_lt (lt_of_block HX4.out)
  clear s0 s1 s2 s3 s4 s5
  obtain ⟨s0, s1, s2, s3, s4, s5⟩ := bsix HX4.out
  go_wp2_with fail
  go_at_call 14
  refine (H3.out _).mono ?_
  rintro e w5 ⟨rfl, hb⟩
  have HX5 := Lib.hid (keepB HX4.out hb)
  have HB5 := Lib.hid (below_on HB4.out hb HP4.out)
  have HP5 : Hid (p ≤ w5.heap.size) := Nat.le_of_lt (lt_of_block HX5.out)
  have HOq1_ := Lib.hid (keepB HOq1.out hb)
  clear HOq1
  have HOq1 := HOq1_
  clear HOq1_
  have HOq2_ := Lib.hid (keepB HOq2.out hb)
  clear HOq2
  have HOq2 := HOq2_
  clear HOq2_
  clear hb
  clear s0 s1 s2 s3 s4 s5
  obtain ⟨s0, s1, s2, s3, s4, s5⟩ := bsix HX5.out
  have HX6 := Lib.hid (keepB HX5.out (below_alloc w5 (.cells #[.int .i64 R.al, .int .i64 R.de, .int .i64 R.cp, .int .i64 R.cn, .int .i64 R.plan, .int .i64 R.wr, .int .i64 R.pr, .int .i64 R.deny] 31)))
  have HB6 := Lib.hid (below_on HB5.out (below_alloc w5 (.cells #[.int .i64 R.al, .int .i64 R.de, .int .i64 R.cp, .int .i64 R.cn, .int .i64 R.plan, .int .i64 R.wr, .int .i64 R.pr, .int .i64 R.deny] 31)) HP5.out)
  have HOq3 := Lib.hid (alloc_new w5 #[.int .i64 R.al, .int .i64 R.de, .int .i64 R.cp, .int .i64 R.cn, .int .i64 R.plan, .int .i64 R.wr, .int .i64 R.pr, .int .i64 R.deny] 31)
  have HOq1_ := Lib.hid (keepB HOq1.out (below_alloc w5 (.cells #[.int .i64 R.al, .int .i64 R.de, .int .i64 R.cp, .int .i64 R.cn, .int .i64 R.plan, .int .i64 R.wr, .int .i64 R.pr, .int .i64 R.deny] 31)))
  clear HOq1
  have HOq1 := HOq1_
  clear HOq1_
  have HOq2_ := Lib.hid (keepB HOq2.out (below_alloc w5 (.cells #[.int .i64 R.al, .int .i64 R.de, .int .i64 R.cp, .int .i64 R.cn, .int .i64 R.plan, .int .i64 R.wr, .int .i64 R.pr, .int .i64 R.deny] 31)))
  clear HOq2
  have HOq2 := HOq2_
  clear HOq2_
  go_upto_region 4 with fail
  generalize w5.alloc (.cells #[.int .i64 R.al, .int .i64 R.de, .int .i64 R.cp, .int .i64 R.cn, .int .i64 R.plan, .int .i64 R.wr, .int .i64 R.pr, .int .i64 R.deny] 31) = w6 at *
  generalize w5.heap.size = q3 at *
  have HP6 : Hid (p ≤ w6.heap.size) := Nat.le_of_lt (lt_of_block HX6.out)
  clear s0 s1 s2 s3 s4 s5
  obtain ⟨s0, s1, s2, s3, s4, s5⟩ := bsix HX6.out
  go_wp2_with fail
  go_at_call 15
  refine (H4.out _).mono ?_
  rintro e w7 ⟨rfl, hb⟩
  have HX7 := Lib.hid (keepB HX6.out hb)
  have HB7 := Lib.hid (below_on HB6.out hb HP6.out)
  have HP7 : Hid (p ≤ w7.heap.size) := Nat.le_of_lt (lt_of_block HX7.out)
  have HOq1_ := Lib.hid (keepB HOq1.out hb)
  clear HOq1
  have HOq1 := HOq1_
  clear HOq1_
  have HOq2_ := Lib.hid (keepB HOq2.out hb)
  clear HOq2
  have HOq2 := HOq2_
  clear HOq2_
  have HOq3_ := Lib.hid (keepB HOq3.out hb)
  clear HOq3
  have HOq3 := HOq3_
  clear HOq3_
  clear hb
  clear s0 s1 s2 s3 s4 s5
  obtain ⟨s0, s1, s2, s3, s4, s5⟩ := bsix HX7.out
  have HX8 := Lib.hid (keepB HX7.out (below_alloc w7 (.cells #[.int .i64 R.al, .int .i64 R.de, .int .i64 R.cp, .int .i64 R.cn, .int .i64 R.plan, .int .i64 R.wr, .int .i64 R.pr, .int .i64 R.deny] 31)))
  have HB8 := Lib.hid (below_on HB7.out (below_alloc w7 (.cells #[.int .i64 R.al, .int .i64 R.de, .int .i64 R.cp, .int .i64 R.cn, .int .i64 R.plan, .int .i64 R.wr, .int .i64 R.pr, .int .i64 R.deny] 31)) HP7.out)
  have HOq4 := Lib.hid (alloc_new w7 #[.int .i64 R.al, .int .i64 R.de, .int .i64 R.cp, .int .i64 R.cn, .int .i64 R.plan, .int .i64 R.wr, .int .i64 R.pr, .int .i64 R.deny] 31)
  have HOq1_ := Lib.hid (keepB HOq1.out (below_alloc w7 (.cells #[.int .i64 R.al, .int .i64 R.de, .int .i64 R.cp, .int .i64 R.cn, .int .i64 R.plan, .int .i64 R.wr, .int .i64 R.pr, .int .i64 R.deny] 31)))
  clear HOq1
  have HOq1 := HOq1_
  clear HOq1_
  have HOq2_ := Lib.hid (keepB HOq2.out (below_alloc w7 (.cells #[.int .i64 R.al, .int .i64 R.de, .int .i64 R.cp, .int .i64 R.cn, .int .i64 R.plan, .int .i64 R.wr, .int .i64 R.pr, .int .i64 R.deny] 31)))
  clear HOq2
  have HOq2 := HOq2_
  clear HOq2_
  have HOq3_ := Lib.hid (keepB HOq3.out (below_alloc w7 (.cells #[.int .i64 R.al, .int .i64 R.de, .int .i64 R.cp, .int .i64 R.cn, .int .i64 R.plan, .int .i64 R.wr, .int .i64 R.pr, .int .i64 R.deny] 31)))
  clear HOq3
  have HOq3 := HOq3_
  clear HOq3_
  go_upto_region 5 with fail
  generalize w7.alloc (.cells #[.int .i64 R.al, .int .i64 R.de, .int .i64 R.cp, .int .i64 R.cn, .int .i64 R.plan, .int .i64 R.wr, .int .i64 R.pr, .int .i64 R.deny] 31) = w8 at *
  generalize w7.heap.size = q4 at *
  have HP8 : Hid (p ≤ w8.heap.size) := Nat.le_of_lt (lt_of_block HX8.out)
  clear s0 s1 s2 s3 s4 s5
  obtain ⟨s0, s1, s2, s3, s4, s5⟩ := bsix HX8.out
  obtain ⟨d0, d1, d2, d3, d4, d5, d6, d7⟩ := eight HOq1.out
  obtain ⟨e0, e1, e2, e3, e4, e5, e6, e7⟩ := eight HOq2.out
  obtain ⟨f0, f1, f2, f3, f4, f5, f6, f7⟩ := eight HOq3.out
  obtain ⟨g0, g1, g2, g3, g4, g5, g6, g7⟩ := eight HOq4.out
  go_wp2_with (go_at_call 11; refine (works_any _).mono ?_; rintro e w9 ⟨rfl, hb9⟩; have HB99 := Lib.hid (below_on HB8.out hb9 HP8.out); clear hb9)
  go_ret
  exact ⟨rfl, by first | exact HB99.out | (rw [hp]; exact HB99.out)⟩

/-! ### the row's step -/
theorem laidOut : laidOutB Try.prog = true := by kernel_rfl
theorem lifted (os : Os) (started : os.Started) (H : Type) (enc : TypeId × Value → H) :
    ReturnsInHanded {} Try.checked os 4 .any (Rows.shareSettlesSpec.pre6 enc Try.prog Try.f4 Rows.shareSettlesRow.domain false) (Rows.shareSettlesSpec.post enc Try.prog Try.f4 false true false false) := by
  refine returnsInHanded_of_change (C := Try.checked) own started (by kernel_rfl) Try.func4
    (ChangeSpec.witness6 (enc := enc) (C := Try.checked) false ⟨#[], #[.agg #[.int .i64 0, .int .i64 0, .int .i64 0, .int .i64 0, .int .i64 0, .int .i64 0], .int .i64 0], []⟩ 8 (by kernel_rfl) (by kernel_rfl) (by kernel_rfl) (by kernel_rfl)) ?_
  intro W base args ds gs before hval0 hW hcnd _
  have hval : ∀ (j : Nat) t v, Try.f4.params[j]? = some t → args[j]? = some v → Value.okWide Try.prog W .any base t v := hval0
  have hW' := hW
  obtain ⟨p, q, hA0, hV, rfl, hfz, hnd⟩ := hW
  have hA : DataW.TrodAll enc Try.prog W 0 (fun _ => true) true Try.f4.params.toList args.toList ds p := hA0
  rw [Try.params4] at hA hval
  obtain ⟨v0, vs0, d0, ds0, p0, q0, hargs, rfl, rfl, h0, r0⟩ := trodAll_cons hA
  obtain ⟨v1, vs1, d1, ds1, p1, q1, rfl, rfl, rfl, h1, r1⟩ := trodAll_cons r0
  obtain ⟨rfl, rfl, rfl⟩ := trodAll_nil r1
  obtain rfl : args = #[v0, v1] := by cases args; simp_all
  obtain ⟨rfl, rfl⟩ := trodVars_none hV
  have k0 := h0
  have lt0 : ∀ x ∈ p0, x.block < W.heap.size := by obtain ⟨m, hm⟩ := k0; exact DataW.trod_lt m _ _ _ hm
  obtain ⟨x00, x01, x02, x03, x04, x05, rfl⟩ := Ho.open_six (hval 0 29 v0 rfl rfl) h0
  obtain ⟨a1, rfl, rfl, rfl, w1⟩ := open_int Try.underlying3 (hval 1 3 v1 rfl rfl) h1
  clear hA0 hval0
  refine (walk W x00 x01 x02 x03 x04 x05 a1 (Ho.i64_of w1)).mono fun e W' ⟨he, bel⟩ => ?_
  subst he
  exact ⟨_, rfl, _, _, _, [], _, [], hW', (trodAll_cons_mk (shut_bool Try.underlying4 _) trodAll_mk0), (trodAll_cons_mk (Below.trod laidOut (by kernel_rfl) (of_decide_eq_true (by kernel_rfl)) k0 bel lt0) (trodAll_cons_mk (shut_int Try.underlying3 w1) trodAll_mk0)), rfl, bel.frame _, fun h => by cases h⟩

theorem over : Rows.shareSettlesRow.holds Try.pinned (OpenSpec.ofChange Rows.shareSettlesSpec) :=
  OpenClaim.holds_of_wide 4 Try.f4 rfl rfl rfl rfl rfl rfl rfl ⟨rfl, rfl, rfl, rfl, rfl⟩ rfl rfl rfl rfl rfl (by kernel_rfl) Try.func4 (by kernel_rfl)
    (of_decide_eq_true (by kernel_rfl)) (by unfold Func.isWrapper; first | (rw [if_pos (by decide +kernel)]; kernel_rfl) | (rw [if_neg (by decide +kernel)]; exact ⟨rfl, rfl⟩))
    (fun os started H enc _ => lifted os started H enc)

/-- The statement. -/
theorem proved : Rows.ShareSettlesSaid := over
end Go.Proofs.Ytgbfckjmbmmgpaa.shareSettles
namespace Go.Proofs.Ytgbfckjmbmmgpaa
theorem shareSettles_holds : Rows.ShareSettlesSaid := shareSettles.proved
#print axioms shareSettles_holds
end Go.Proofs.Ytgbfckjmbmmgpaa
