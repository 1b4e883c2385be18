/-
  ShareFree holds for all numbers and benefits: where nothing is borne by the benefit nothing is borne; out of the network limits play no part.
-/
import Derived.Test.YtgbfckjmbmmgpabRows
import Derived.WalkKit
import Derived.ProofKit
import Derived.OpenShut
import Derived.Below
import Derived.Carry
import Derived.Laws.Cover2
import Derived.Test.YtgbfckjmbmmgpabHWorks
import Derived.Test.YtgbfckjmbmmgpabHOpen
namespace Go.Proofs.Ytgbfckjmbmmgpab.shareFree
open Go.ChangeShapes Go.WideShapes Go.ChangeAt Go.RowKit
open Sh
set_option linter.unusedVariables false
set_option linter.unusedSimpArgs false
set_option maxRecDepth 100000

theorem own : ownKnob Try.prog.godebug = none := by kernel_rfl

/-! ### the walk: the law returns true -/
set_option maxHeartbeats 16000000 in
theorem walk (w : World) (a0 : Int) (h0 : Ho.I64 a0) (co1 dd1 : Bool) (cp1 cn1 : Int) (i1 : Ho.I64 cp1) (j1 : Ho.I64 cn1) (a2 : Int) (h2 : Ho.I64 a2) (a3 : Int) (h3 : Ho.I64 a3) (a4 : Int) (h4 : Ho.I64 a4) :
    Calls Try.prog 3 #[.int .i64 a0, .agg #[.bool co1, .bool dd1, .int .i64 cp1, .int .i64 cn1], .int .i64 a2, .int .i64 a3, .int .i64 a4] w fun e w' => e = .returned (.bool true) ∧ Below w.heap.size w w' := by
  have H0 := Lib.hid (bear_any a0 co1 false 0 0 a2 a3 a4)
  obtain ⟨q0, q1, q2⟩ := bear_free a0 a2 a3 a4
  rw [q0, q1, q2] at H0
  clear q0 q1 q2
  generalize bE a0 0 0 a2 a3 = F0 at *
  by_cases hn : a4 = 0
  · subst hn
    clear h4
    by_cases hf : F0 = 0
    · have hf' : (F0 == 0) = true := by simpa using hf
      clear hf
      have HX0 := Lib.hid (alloc_new w #[.bool co1, .bool dd1, .int .i64 cp1, .int .i64 cn1] 23)
      have HB0 := Lib.hid (below_alloc w (.cells #[.bool co1, .bool dd1, .int .i64 cp1, .int .i64 cn1] 23))
      go_enter Try.func3, Try.ntmps3
      go_upto_region 1 with fail
      generalize w.alloc (.cells #[.bool co1, .bool dd1, .int .i64 cp1, .int .i64 cn1] 23) = w0 at *
      generalize hp : w.heap.size = p at *
      have HP0 : Hid (p ≤ w0.heap.size) := Nat.le_of_lt (lt_of_block HX0.out)
      obtain ⟨b0, b1, b2, b3⟩ := bfour HX0.out
      go_wp2_with fail
      go_at_call 4
      refine (H0.out _).mono ?_
      rintro e w1 ⟨rfl, hb⟩
      have HX1 := Lib.hid (keepB HX0.out hb)
      have HB1 := Lib.hid (below_on HB0.out hb HP0.out)
      have HP1 : Hid (p ≤ w1.heap.size) := Nat.le_of_lt (lt_of_block HX1.out)
      clear hb
      clear b0 b1 b2 b3
      obtain ⟨b0, b1, b2, b3⟩ := bfour HX1.out
      go_wp2_with (go_at_call 5; refine (works_any _).mono ?_; rintro e w9 ⟨rfl, hb9⟩; have HB99 := Lib.hid (below_on HB1.out hb9 HP1.out); clear hb9)
      go_ret
      exact ⟨rfl, by first | exact HB99.out | (rw [hp]; exact HB99.out)⟩
    · have hf' : (F0 == 0) = false := by simpa using hf
      clear hf
      have HX0 := Lib.hid (alloc_new w #[.bool co1, .bool dd1, .int .i64 cp1, .int .i64 cn1] 23)
      have HB0 := Lib.hid (below_alloc w (.cells #[.bool co1, .bool dd1, .int .i64 cp1, .int .i64 cn1] 23))
      go_enter Try.func3, Try.ntmps3
      go_upto_region 1 with fail
      generalize w.alloc (.cells #[.bool co1, .bool dd1, .int .i64 cp1, .int .i64 cn1] 23) = w0 at *
      generalize hp : w.heap.size = p at *
      have HP0 : Hid (p ≤ w0.heap.size) := Nat.le_of_lt (lt_of_block HX0.out)
      obtain ⟨b0, b1, b2, b3⟩ := bfour HX0.out
      go_wp2_with fail
      go_at_call 4
      refine (H0.out _).mono ?_
      rintro e w1 ⟨rfl, hb⟩
      have HX1 := Lib.hid (keepB HX0.out hb)
      have HB1 := Lib.hid (below_on HB0.out hb HP0.out)
      have HP1 : Hid (p ≤ w1.heap.size) := Nat.le_of_lt (lt_of_block HX1.out)
      clear hb
      clear b0 b1 b2 b3
      obtain ⟨b0, b1, b2, b3⟩ := bfour HX1.out
      go_wp2_with (go_at_call 5; refine (works_any _).mono ?_; rintro e w9 ⟨rfl, hb9⟩; have HB99 := Lib.hid (below_on HB1.out hb9 HP1.out); clear hb9)
      go_ret
      exact ⟨rfl, by first | exact HB99.out | (rw [hp]; exact HB99.out)⟩
  · have hn' : (a4 == 0) = false := by simpa using hn
    have H1 := Lib.hid (bear_any a0 co1 dd1 cp1 cn1 0 0 a4)
    have H2 := Lib.hid (bear_any a0 co1 dd1 cp1 cn1 a2 a3 a4)
    have hO := bear_out a0 dd1 cp1 cn1 a2 a3 a4 hn
    generalize bD a0 dd1 cp1 cn1 a2 a3 a4 = D at *
    generalize bC a0 dd1 cp1 cn1 a2 a3 a4 = C at *
    generalize bK a0 dd1 cp1 cn1 a2 a3 a4 = K at *
    generalize bD a0 dd1 cp1 cn1 0 0 a4 = X at *
    generalize bC a0 dd1 cp1 cn1 0 0 a4 = Y at *
    generalize bK a0 dd1 cp1 cn1 0 0 a4 = Z at *
    generalize bE a0 cp1 cn1 0 0 = E1 at *
    generalize bE a0 cp1 cn1 a2 a3 = E2 at *
    clear hn
    by_cases he : E2 = 0
    · subst he
      obtain ⟨o0, o1, o2, o3, o4⟩ := hO rfl
      clear hO
      subst o0 o1 o2 o3 o4
      by_cases hf : F0 = 0
      · have hf' : (F0 == 0) = true := by simpa using hf
        clear hf
        have HX0 := Lib.hid (alloc_new w #[.bool co1, .bool dd1, .int .i64 cp1, .int .i64 cn1] 23)
        have HB0 := Lib.hid (below_alloc w (.cells #[.bool co1, .bool dd1, .int .i64 cp1, .int .i64 cn1] 23))
        go_enter Try.func3, Try.ntmps3
        go_upto_region 1 with fail
        generalize w.alloc (.cells #[.bool co1, .bool dd1, .int .i64 cp1, .int .i64 cn1] 23) = w0 at *
        generalize hp : w.heap.size = p at *
        have HP0 : Hid (p ≤ w0.heap.size) := Nat.le_of_lt (lt_of_block HX0.out)
        obtain ⟨b0, b1, b2, b3⟩ := bfour HX0.out
        go_wp2_with fail
        go_at_call 4
        refine (H0.out _).mono ?_
        rintro e w1 ⟨rfl, hb⟩
        have HX1 := Lib.hid (keepB HX0.out hb)
        have HB1 := Lib.hid (below_on HB0.out hb HP0.out)
        have HP1 : Hid (p ≤ w1.heap.size) := Nat.le_of_lt (lt_of_block HX1.out)
        clear hb
        clear b0 b1 b2 b3
        obtain ⟨b0, b1, b2, b3⟩ := bfour HX1.out
        go_wp2_with fail
        go_at_call 4
        refine (H1.out _).mono ?_
        rintro e w2 ⟨rfl, hb⟩
        have HX2 := Lib.hid (keepB HX1.out hb)
        have HB2 := Lib.hid (below_on HB1.out hb HP1.out)
        have HP2 : Hid (p ≤ w2.heap.size) := Nat.le_of_lt (lt_of_block HX2.out)
        clear hb
        clear b0 b1 b2 b3
        obtain ⟨b0, b1, b2, b3⟩ := bfour HX2.out
        go_wp2_with fail
        go_at_call 4
        refine (H2.out _).mono ?_
        rintro e w3 ⟨rfl, hb⟩
        have HX3 := Lib.hid (keepB HX2.out hb)
        have HB3 := Lib.hid (below_on HB2.out hb HP2.out)
        have HP3 : Hid (p ≤ w3.heap.size) := Nat.le_of_lt (lt_of_block HX3.out)
        clear hb
        clear b0 b1 b2 b3
        obtain ⟨b0, b1, b2, b3⟩ := bfour HX3.out
        go_wp2_with (go_at_call 5; refine (works_any _).mono ?_; rintro e w9 ⟨rfl, hb9⟩; have HB99 := Lib.hid (below_on HB3.out hb9 HP3.out); clear hb9)
        go_ret
        exact ⟨rfl, by first | exact HB99.out | (rw [hp]; exact HB99.out)⟩
      · have hf' : (F0 == 0) = false := by simpa using hf
        clear hf
        have HX0 := Lib.hid (alloc_new w #[.bool co1, .bool dd1, .int .i64 cp1, .int .i64 cn1] 23)
        have HB0 := Lib.hid (below_alloc w (.cells #[.bool co1, .bool dd1, .int .i64 cp1, .int .i64 cn1] 23))
        go_enter Try.func3, Try.ntmps3
        go_upto_region 1 with fail
        generalize w.alloc (.cells #[.bool co1, .bool dd1, .int .i64 cp1, .int .i64 cn1] 23) = w0 at *
        generalize hp : w.heap.size = p at *
        have HP0 : Hid (p ≤ w0.heap.size) := Nat.le_of_lt (lt_of_block HX0.out)
        obtain ⟨b0, b1, b2, b3⟩ := bfour HX0.out
        go_wp2_with fail
        go_at_call 4
        refine (H0.out _).mono ?_
        rintro e w1 ⟨rfl, hb⟩
        have HX1 := Lib.hid (keepB HX0.out hb)
        have HB1 := Lib.hid (below_on HB0.out hb HP0.out)
        have HP1 : Hid (p ≤ w1.heap.size) := Nat.le_of_lt (lt_of_block HX1.out)
        clear hb
        clear b0 b1 b2 b3
        obtain ⟨b0, b1, b2, b3⟩ := bfour HX1.out
        go_wp2_with fail
        go_at_call 4
        refine (H1.out _).mono ?_
        rintro e w2 ⟨rfl, hb⟩
        have HX2 := Lib.hid (keepB HX1.out hb)
        have HB2 := Lib.hid (below_on HB1.out hb HP1.out)
        have HP2 : Hid (p ≤ w2.heap.size) := Nat.le_of_lt (lt_of_block HX2.out)
        clear hb
        clear b0 b1 b2 b3
        obtain ⟨b0, b1, b2, b3⟩ := bfour HX2.out
        go_wp2_with fail
        go_at_call 4
        refine (H2.out _).mono ?_
        rintro e w3 ⟨rfl, hb⟩
        have HX3 := Lib.hid (keepB HX2.out hb)
        have HB3 := Lib.hid (below_on HB2.out hb HP2.out)
        have HP3 : Hid (p ≤ w3.heap.size) := Nat.le_of_lt (lt_of_block HX3.out)
        clear hb
        clear b0 b1 b2 b3
        obtain ⟨b0, b1, b2, b3⟩ := bfour HX3.out
        go_wp2_with (go_at_call 5; refine (works_any _).mono ?_; rintro e w9 ⟨rfl, hb9⟩; have HB99 := Lib.hid (below_on HB3.out hb9 HP3.out); clear hb9)
        go_ret
        exact ⟨rfl, by first | exact HB99.out | (rw [hp]; exact HB99.out)⟩
    · have he' : (E2 != 0) = true := by simpa using he
      clear hO he
      by_cases hf : F0 = 0
      · have hf' : (F0 == 0) = true := by simpa using hf
        clear hf
        have HX0 := Lib.hid (alloc_new w #[.bool co1, .bool dd1, .int .i64 cp1, .int .i64 cn1] 23)
        have HB0 := Lib.hid (below_alloc w (.cells #[.bool co1, .bool dd1, .int .i64 cp1, .int .i64 cn1] 23))
        go_enter Try.func3, Try.ntmps3
        go_upto_region 1 with fail
        generalize w.alloc (.cells #[.bool co1, .bool dd1, .int .i64 cp1, .int .i64 cn1] 23) = w0 at *
        generalize hp : w.heap.size = p at *
        have HP0 : Hid (p ≤ w0.heap.size) := Nat.le_of_lt (lt_of_block HX0.out)
        obtain ⟨b0, b1, b2, b3⟩ := bfour HX0.out
        go_wp2_with fail
        go_at_call 4
        refine (H0.out _).mono ?_
        rintro e w1 ⟨rfl, hb⟩
        have HX1 := Lib.hid (keepB HX0.out hb)
        have HB1 := Lib.hid (below_on HB0.out hb HP0.out)
        have HP1 : Hid (p ≤ w1.heap.size) := Nat.le_of_lt (lt_of_block HX1.out)
        clear hb
        clear b0 b1 b2 b3
        obtain ⟨b0, b1, b2, b3⟩ := bfour HX1.out
        go_wp2_with fail
        go_at_call 4
        refine (H1.out _).mono ?_
        rintro e w2 ⟨rfl, hb⟩
        have HX2 := Lib.hid (keepB HX1.out hb)
        have HB2 := Lib.hid (below_on HB1.out hb HP1.out)
        have HP2 : Hid (p ≤ w2.heap.size) := Nat.le_of_lt (lt_of_block HX2.out)
        clear hb
        clear b0 b1 b2 b3
        obtain ⟨b0, b1, b2, b3⟩ := bfour HX2.out
        go_wp2_with fail
        go_at_call 4
        refine (H2.out _).mono ?_
        rintro e w3 ⟨rfl, hb⟩
        have HX3 := Lib.hid (keepB HX2.out hb)
        have HB3 := Lib.hid (below_on HB2.out hb HP2.out)
        have HP3 : Hid (p ≤ w3.heap.size) := Nat.le_of_lt (lt_of_block HX3.out)
        clear hb
        clear b0 b1 b2 b3
        obtain ⟨b0, b1, b2, b3⟩ := bfour HX3.out
        go_wp2_with (go_at_call 5; refine (works_any _).mono ?_; rintro e w9 ⟨rfl, hb9⟩; have HB99 := Lib.hid (below_on HB3.out hb9 HP3.out); clear hb9)
        go_ret
        exact ⟨rfl, by first | exact HB99.out | (rw [hp]; exact HB99.out)⟩
      · have hf' : (F0 == 0) = false := by simpa using hf
        clear hf
        have HX0 := Lib.hid (alloc_new w #[.bool co1, .bool dd1, .int .i64 cp1, .int .i64 cn1] 23)
        have HB0 := Lib.hid (below_alloc w (.cells #[.bool co1, .bool dd1, .int .i64 cp1, .int .i64 cn1] 23))
        go_enter Try.func3, Try.ntmps3
        go_upto_region 1 with fail
        generalize w.alloc (.cells #[.bool co1, .bool dd1, .int .i64 cp1, .int .i64 cn1] 23) = w0 at *
        generalize hp : w.heap.size = p at *
        have HP0 : Hid (p ≤ w0.heap.size) := Nat.le_of_lt (lt_of_block HX0.out)
        obtain ⟨b0, b1, b2, b3⟩ := bfour HX0.out
        go_wp2_with fail
        go_at_call 4
        refine (H0.out _).mono ?_
        rintro e w1 ⟨rfl, hb⟩
        have HX1 := Lib.hid (keepB HX0.out hb)
        have HB1 := Lib.hid (below_on HB0.out hb HP0.out)
        have HP1 : Hid (p ≤ w1.heap.size) := Nat.le_of_lt (lt_of_block HX1.out)
        clear hb
        clear b0 b1 b2 b3
        obtain ⟨b0, b1, b2, b3⟩ := bfour HX1.out
        go_wp2_with fail
        go_at_call 4
        refine (H1.out _).mono ?_
        rintro e w2 ⟨rfl, hb⟩
        have HX2 := Lib.hid (keepB HX1.out hb)
        have HB2 := Lib.hid (below_on HB1.out hb HP1.out)
        have HP2 : Hid (p ≤ w2.heap.size) := Nat.le_of_lt (lt_of_block HX2.out)
        clear hb
        clear b0 b1 b2 b3
        obtain ⟨b0, b1, b2, b3⟩ := bfour HX2.out
        go_wp2_with fail
        go_at_call 4
        refine (H2.out _).mono ?_
        rintro e w3 ⟨rfl, hb⟩
        have HX3 := Lib.hid (keepB HX2.out hb)
        have HB3 := Lib.hid (below_on HB2.out hb HP2.out)
        have HP3 : Hid (p ≤ w3.heap.size) := Nat.le_of_lt (lt_of_block HX3.out)
        clear hb
        clear b0 b1 b2 b3
        obtain ⟨b0, b1, b2, b3⟩ := bfour HX3.out
        go_wp2_with (go_at_call 5; refine (works_any _).mono ?_; rintro e w9 ⟨rfl, hb9⟩; have HB99 := Lib.hid (below_on HB3.out hb9 HP3.out); clear hb9)
        go_ret
        exact ⟨rfl, by first | exact HB99.out | (rw [hp]; exact HB99.out)⟩

/-! ### the row's step -/
theorem laidOut : laidOutB Try.prog = true := by kernel_rfl
theorem lifted (os : Os) (started : os.Started) (H : Type) (enc : TypeId × Value → H) :
    ReturnsInHanded {} Try.checked os 3 .any (Rows.shareFreeSpec.pre6 enc Try.prog Try.f3 Rows.shareFreeRow.domain false) (Rows.shareFreeSpec.post enc Try.prog Try.f3 false true false false) := by
  refine returnsInHanded_of_change (C := Try.checked) own started (by kernel_rfl) Try.func3
    (ChangeSpec.witness6 (enc := enc) (C := Try.checked) false ⟨#[], #[.int .i64 0, .agg #[.bool false, .bool false, .int .i64 0, .int .i64 0], .int .i64 0, .int .i64 0, .int .i64 0], []⟩ 8 (by kernel_rfl) (by kernel_rfl) (by kernel_rfl) (by kernel_rfl)) ?_
  intro W base args ds gs before hval0 hW hcnd _
  have hval : ∀ (j : Nat) t v, Try.f3.params[j]? = some t → args[j]? = some v → Value.okWide Try.prog W .any base t v := hval0
  have hW' := hW
  obtain ⟨p, q, hA0, hV, rfl, hfz, hnd⟩ := hW
  have hA : DataW.TrodAll enc Try.prog W 0 (fun _ => true) true Try.f3.params.toList args.toList ds p := hA0
  rw [Try.params3] at hA hval
  obtain ⟨v0, vs0, d0, ds0, p0, q0, hargs, rfl, rfl, h0, r0⟩ := trodAll_cons hA
  obtain ⟨v1, vs1, d1, ds1, p1, q1, rfl, rfl, rfl, h1, r1⟩ := trodAll_cons r0
  obtain ⟨v2, vs2, d2, ds2, p2, q2, rfl, rfl, rfl, h2, r2⟩ := trodAll_cons r1
  obtain ⟨v3, vs3, d3, ds3, p3, q3, rfl, rfl, rfl, h3, r3⟩ := trodAll_cons r2
  obtain ⟨v4, vs4, d4, ds4, p4, q4, rfl, rfl, rfl, h4, r4⟩ := trodAll_cons r3
  obtain ⟨rfl, rfl, rfl⟩ := trodAll_nil r4
  obtain rfl : args = #[v0, v1, v2, v3, v4] := by cases args; simp_all
  obtain ⟨rfl, rfl⟩ := trodVars_none hV
  obtain ⟨a0, rfl, rfl, rfl, w0⟩ := open_int Try.underlying2 (hval 0 2 v0 rfl rfl) h0
  have k1 := h1
  have lt1 : ∀ x ∈ p1, x.block < W.heap.size := by obtain ⟨m, hm⟩ := k1; exact DataW.trod_lt m _ _ _ hm
  obtain ⟨co1, dd1, cp1, cn1, rfl, i1, j1⟩ := Ho.open_ben (hval 1 23 v1 rfl rfl) h1
  obtain ⟨a2, rfl, rfl, rfl, w2⟩ := open_int Try.underlying2 (hval 2 2 v2 rfl rfl) h2
  obtain ⟨a3, rfl, rfl, rfl, w3⟩ := open_int Try.underlying2 (hval 3 2 v3 rfl rfl) h3
  obtain ⟨a4, rfl, rfl, rfl, w4⟩ := open_int Try.underlying3 (hval 4 3 v4 rfl rfl) h4
  clear hA0 hval0
  refine (walk W a0 (Ho.i64_of w0) co1 dd1 cp1 cn1 i1 j1 a2 (Ho.i64_of w2) a3 (Ho.i64_of w3) a4 (Ho.i64_of w4)).mono fun e W' ⟨he, bel⟩ => ?_
  subst he
  exact ⟨_, rfl, _, _, _, [], _, [], hW', (trodAll_cons_mk (shut_bool Try.underlying4 _) trodAll_mk0), (trodAll_cons_mk (shut_int Try.underlying2 w0) (trodAll_cons_mk (Below.trod laidOut (by kernel_rfl) (of_decide_eq_true (by kernel_rfl)) k1 bel lt1) (trodAll_cons_mk (shut_int Try.underlying2 w2) (trodAll_cons_mk (shut_int Try.underlying2 w3) (trodAll_cons_mk (shut_int Try.underlying3 w4) trodAll_mk0))))), rfl, bel.frame _, fun h => by cases h⟩

theorem over : Rows.shareFreeRow.holds Try.pinned (OpenSpec.ofChange Rows.shareFreeSpec) :=
  OpenClaim.holds_of_wide 3 Try.f3 rfl rfl rfl rfl rfl rfl rfl ⟨rfl, rfl, rfl, rfl, rfl⟩ rfl rfl rfl rfl rfl (by kernel_rfl) Try.func3 (by kernel_rfl)
    (of_decide_eq_true (by kernel_rfl)) (by unfold Func.isWrapper; first | (rw [if_pos (by decide +kernel)]; kernel_rfl) | (rw [if_neg (by decide +kernel)]; exact ⟨rfl, rfl⟩))
    (fun os started H enc _ => lifted os started H enc)

/-- The statement. -/
theorem proved : Rows.ShareFreeSaid := over
end Go.Proofs.Ytgbfckjmbmmgpab.shareFree
namespace Go.Proofs.Ytgbfckjmbmmgpab
theorem shareFree_holds : Rows.ShareFreeSaid := shareFree.proved
#print axioms shareFree_holds
end Go.Proofs.Ytgbfckjmbmmgpab
