/-
  The statement AccsOrder (16.6): in which order two things are counted plays no part, for all rows that may be; without a condition.
-/
import Derived.Test.YtdppelkfcnbgbaaRows
import Derived.WalkKit
import Derived.ProofKit
import Derived.OpenShut
import Derived.ShutString
import Derived.Below
import Derived.Carry
import Derived.Laws.Cover2
import Derived.HandedShaped
import Derived.Test.YtdppelkfcnbgbaaYWorks
import Derived.Test.YtdppelkfcnbgbaaYMay
import Derived.Test.YtdppelkfcnbgbaaYRGet
import Derived.Test.YtdppelkfcnbgbaaYOpen
namespace Go.Proofs.Ytdppelkfcnbgbaa.accsOrder
open Go.ChangeShapes Go.WideShapes Go.ChangeAt Go.RowKit
open Ac
open Go.ChangeMaps (open_string)
set_option linter.unusedVariables false
set_option linter.unusedSimpArgs false
set_option maxRecDepth 100000

theorem own : ownKnob Try.prog.godebug = none := by kernel_rfl

/-! ### the walk: the law returns true -/
set_option maxHeartbeats 16000000 in
theorem walk (w : World) (v0 : Value) (l0 : List Row) (h0 : RwsAt All w v0 l0) (z0 : ∀ x ∈ l0, Ao.I64 x.year) (x1 : Row) (z1 : Ao.I64 x1.year) (x2 : Row) (z2 : Ao.I64 x2.year) :
    Calls Try.prog 8 #[v0, rwv x1, rwv x2] w fun e w' => e = .returned (.bool true) ∧ Below w.heap.size w w' := by
  have HW := Lib.hid works_any
  have hbx : Below w.heap.size w ((w.alloc (.cells #[.string (mk x1.who), .bool x1.fam, .int .i64 x1.year, .int .i64 x1.de, .int .i64 x1.oo] TA)).alloc (.cells #[.string (mk x2.who), .bool x2.fam, .int .i64 x2.year, .int .i64 x2.de, .int .i64 x2.oo] TA)) := two_alloc w _ _
  have hz1 := keepB (heap_alloc_new w (.cells #[.string (mk x1.who), .bool x1.fam, .int .i64 x1.year, .int .i64 x1.de, .int .i64 x1.oo] TA)) (below_alloc _ (.cells #[.string (mk x2.who), .bool x2.fam, .int .i64 x2.year, .int .i64 x2.de, .int .i64 x2.oo] TA))
  have hz2 := heap_alloc_new (w.alloc (.cells #[.string (mk x1.who), .bool x1.fam, .int .i64 x1.year, .int .i64 x1.de, .int .i64 x1.oo] TA)) (.cells #[.string (mk x2.who), .bool x2.fam, .int .i64 x2.year, .int .i64 x2.de, .int .i64 x2.oo] TA)
  rw [show (w.alloc (.cells #[.string (mk x1.who), .bool x1.fam, .int .i64 x1.year, .int .i64 x1.de, .int .i64 x1.oo] TA)).heap.size = w.heap.size + 1 by simp] at hz2
  have HX := Lib.hid hz1
  have HY := Lib.hid hz2
  have HBox := Lib.hid hbx
  have HM := Lib.hid (may_any l0 v0 _ (h0.grw hbx))
  have HRlo : Hid (∀ W, Below w.heap.size w W → RwsAt All W v0 l0) := fun W hW => ((rws_lo h0).move (Below.moves_lo hW)).all
  clear hbx hz1 hz2
  cases hm : mayB l0 with
  | false =>
    rw [hm] at HM
    obtain ⟨fa, fk, rfl, hm1, hm2⟩ := h0.form
    clear h0 hm
    go_enter Try.func8, Try.ntmps8
    go_upto_region 1 with fail
    generalize ((w.alloc (.cells #[.string (mk x1.who), .bool x1.fam, .int .i64 x1.year, .int .i64 x1.de, .int .i64 x1.oo] TA)).alloc (.cells #[.string (mk x2.who), .bool x2.fam, .int .i64 x2.year, .int .i64 x2.de, .int .i64 x2.oo] TA)) = w0 at *
    generalize hp : w.heap.size = p at *
    obtain ⟨q, hq⟩ : ∃ q, q = p + 1 := ⟨_, rfl⟩
    rw [← hq] at HY ⊢
    clear hq
    have HB0 := Lib.hid HBox.out
    clear HBox
    go_wp2_with fail
    try (go_at_call 13)
    refine (HM.out).mono ?_
    rintro e w1 ⟨rfl, hb1⟩
    have HB1 := Lib.hid (below_tr hp HB0.out hb1)
    have HX1 := Lib.hid (keepB HX.out hb1)
    have HY1 := Lib.hid (keepB HY.out hb1)
    clear hb1 HB0 HM HX HY
    obtain ⟨q0, q1, q2, q3, q4⟩ := cells5 HX1.out
    obtain ⟨r0, r1, r2, r3, r4⟩ := cells5 HY1.out
    go_wp2_with fail
    try (go_at_call 10)
    refine (HW.out w1).mono ?_
    rintro e w2 ⟨rfl, hb2⟩
    have HB2 := Lib.hid (below_tr hp HB1.out hb2)
    clear hb2 HB1 
    go_wp2
    go_ret
    exact ⟨rfl, by first | exact HB2.out | (rw [hp]; exact HB2.out)⟩
  | true =>
    obtain ⟨⟨h3, -⟩, hO⟩ := (may_iff l0).1 hm
    by_cases c1 : (60 : Int) < ((mk x1.who).size : Int)
    · rw [hm] at HM
      obtain ⟨fa, fk, rfl, hm1, hm2⟩ := h0.form
      clear h0 hm
      go_enter Try.func8, Try.ntmps8
      go_upto_region 1 with fail
      generalize ((w.alloc (.cells #[.string (mk x1.who), .bool x1.fam, .int .i64 x1.year, .int .i64 x1.de, .int .i64 x1.oo] TA)).alloc (.cells #[.string (mk x2.who), .bool x2.fam, .int .i64 x2.year, .int .i64 x2.de, .int .i64 x2.oo] TA)) = w0 at *
      generalize hp : w.heap.size = p at *
      obtain ⟨q, hq⟩ : ∃ q, q = p + 1 := ⟨_, rfl⟩
      rw [← hq] at HY ⊢
      clear hq
      have HB0 := Lib.hid HBox.out
      clear HBox
      go_wp2_with fail
      try (go_at_call 13)
      refine (HM.out).mono ?_
      rintro e w1 ⟨rfl, hb1⟩
      have HB1 := Lib.hid (below_tr hp HB0.out hb1)
      have HX1 := Lib.hid (keepB HX.out hb1)
      have HY1 := Lib.hid (keepB HY.out hb1)
      clear hb1 HB0 HM HX HY
      obtain ⟨q0, q1, q2, q3, q4⟩ := cells5 HX1.out
      obtain ⟨r0, r1, r2, r3, r4⟩ := cells5 HY1.out
      go_wp2_with fail
      try (go_at_call 10)
      refine (HW.out w1).mono ?_
      rintro e w2 ⟨rfl, hb2⟩
      have HB2 := Lib.hid (below_tr hp HB1.out hb2)
      clear hb2 HB1 
      go_wp2
      go_ret
      exact ⟨rfl, by first | exact HB2.out | (rw [hp]; exact HB2.out)⟩
    · by_cases c2 : (60 : Int) < ((mk x2.who).size : Int)
      · rw [hm] at HM
        obtain ⟨fa, fk, rfl, hm1, hm2⟩ := h0.form
        clear h0 hm
        go_enter Try.func8, Try.ntmps8
        go_upto_region 1 with fail
        generalize ((w.alloc (.cells #[.string (mk x1.who), .bool x1.fam, .int .i64 x1.year, .int .i64 x1.de, .int .i64 x1.oo] TA)).alloc (.cells #[.string (mk x2.who), .bool x2.fam, .int .i64 x2.year, .int .i64 x2.de, .int .i64 x2.oo] TA)) = w0 at *
        generalize hp : w.heap.size = p at *
        obtain ⟨q, hq⟩ : ∃ q, q = p + 1 := ⟨_, rfl⟩
        rw [← hq] at HY ⊢
        clear hq
        have HB0 := Lib.hid HBox.out
        clear HBox
        go_wp2_with fail
        try (go_at_call 13)
        refine (HM.out).mono ?_
        rintro e w1 ⟨rfl, hb1⟩
        have HB1 := Lib.hid (below_tr hp HB0.out hb1)
        have HX1 := Lib.hid (keepB HX.out hb1)
        have HY1 := Lib.hid (keepB HY.out hb1)
        clear hb1 HB0 HM HX HY
        obtain ⟨q0, q1, q2, q3, q4⟩ := cells5 HX1.out
        obtain ⟨r0, r1, r2, r3, r4⟩ := cells5 HY1.out
        go_wp2_with fail
        try (go_at_call 10)
        refine (HW.out w1).mono ?_
        rintro e w2 ⟨rfl, hb2⟩
        have HB2 := Lib.hid (below_tr hp HB1.out hb2)
        clear hb2 HB1 
        go_wp2
        go_ret
        exact ⟨rfl, by first | exact HB2.out | (rw [hp]; exact HB2.out)⟩
      · have HA := Lib.hid fun W (hW : RwsAt All W v0 l0) => add_any l0 x1.who x1.fam x1.year x1.de x1.oo v0 W hW (by omega) hO
        have HD := Lib.hid fun W (hW : RwsAt All W v0 l0) => add_any l0 x2.who x2.fam x2.year x2.de x2.oo v0 W hW (by omega) hO
        have HE3 : Hid (addE l0 x1.who x1.fam x1.year x1.de x1.oo = 0 → ∀ W v, RwsAt All W v (addV l0 x1.who x1.fam x1.year x1.de x1.oo) → Calls Try.prog 14 #[v, .string (mk x2.who), .bool x2.fam, .int .i64 x2.year, .int .i64 x2.de, .int .i64 x2.oo] W fun e w' => ∃ v', e = .returned (.tuple #[v', .int .i64 (addE (addV l0 x1.who x1.fam x1.year x1.de x1.oo) x2.who x2.fam x2.year x2.de x2.oo)]) ∧ Own W.heap.size w' v' (addV (addV l0 x1.who x1.fam x1.year x1.de x1.oo) x2.who x2.fam x2.year x2.de x2.oo) ∧ Below W.heap.size W w') := fun h W v hW => add_any (addV l0 x1.who x1.fam x1.year x1.de x1.oo) x2.who x2.fam x2.year x2.de x2.oo v W hW (by have := add_len l0 x1.who x1.fam x1.year x1.de x1.oo; omega) (add_ok hO h)
        have HE4 : Hid (addE l0 x2.who x2.fam x2.year x2.de x2.oo = 0 → ∀ W v, RwsAt All W v (addV l0 x2.who x2.fam x2.year x2.de x2.oo) → Calls Try.prog 14 #[v, .string (mk x1.who), .bool x1.fam, .int .i64 x1.year, .int .i64 x1.de, .int .i64 x1.oo] W fun e w' => ∃ v', e = .returned (.tuple #[v', .int .i64 (addE (addV l0 x2.who x2.fam x2.year x2.de x2.oo) x1.who x1.fam x1.year x1.de x1.oo)]) ∧ Own W.heap.size w' v' (addV (addV l0 x2.who x2.fam x2.year x2.de x2.oo) x1.who x1.fam x1.year x1.de x1.oo) ∧ Below W.heap.size W w') := fun h W v hW => add_any (addV l0 x2.who x2.fam x2.year x2.de x2.oo) x1.who x1.fam x1.year x1.de x1.oo v W hW (by have := add_len l0 x2.who x2.fam x2.year x2.de x2.oo; omega) (add_ok hO h)
        have HK : Hid (addE l0 x1.who x1.fam x1.year x1.de x1.oo = 0 → addE l0 x2.who x2.fam x2.year x2.de x2.oo = 0 → addE (addV l0 x1.who x1.fam x1.year x1.de x1.oo) x2.who x2.fam x2.year x2.de x2.oo = addE (addV l0 x2.who x2.fam x2.year x2.de x2.oo) x1.who x1.fam x1.year x1.de x1.oo ∧ addV (addV l0 x1.who x1.fam x1.year x1.de x1.oo) x2.who x2.fam x2.year x2.de x2.oo = addV (addV l0 x2.who x2.fam x2.year x2.de x2.oo) x1.who x1.fam x1.year x1.de x1.oo) := fun e1 e2 => ⟨add_orderE hO e1 e2, add_orderV hO e1 e2⟩
        have HVl : Hid ((addV (addV l0 x1.who x1.fam x1.year x1.de x1.oo) x2.who x2.fam x2.year x2.de x2.oo).length ≤ 100000) := by
          have y1 := add_len l0 x1.who x1.fam x1.year x1.de x1.oo
          have y2 := add_len (addV l0 x1.who x1.fam x1.year x1.de x1.oo) x2.who x2.fam x2.year x2.de x2.oo
          show _ ≤ _
          omega
        generalize addE (addV l0 x1.who x1.fam x1.year x1.de x1.oo) x2.who x2.fam x2.year x2.de x2.oo = E3 at *
        generalize addE (addV l0 x2.who x2.fam x2.year x2.de x2.oo) x1.who x1.fam x1.year x1.de x1.oo = E4 at *
        generalize addV (addV l0 x1.who x1.fam x1.year x1.de x1.oo) x2.who x2.fam x2.year x2.de x2.oo = V3 at *
        generalize addV (addV l0 x2.who x2.fam x2.year x2.de x2.oo) x1.who x1.fam x1.year x1.de x1.oo = V4 at *
        generalize addE l0 x1.who x1.fam x1.year x1.de x1.oo = E1 at *
        generalize addE l0 x2.who x2.fam x2.year x2.de x2.oo = E2 at *
        generalize addV l0 x1.who x1.fam x1.year x1.de x1.oo = V1 at *
        generalize addV l0 x2.who x2.fam x2.year x2.de x2.oo = V2 at *
        clear hO
        rw [hm] at HM
        obtain ⟨fa, fk, rfl, hm1, hm2⟩ := h0.form
        clear h0 hm
        go_enter Try.func8, Try.ntmps8
        go_upto_region 1 with fail
        generalize ((w.alloc (.cells #[.string (mk x1.who), .bool x1.fam, .int .i64 x1.year, .int .i64 x1.de, .int .i64 x1.oo] TA)).alloc (.cells #[.string (mk x2.who), .bool x2.fam, .int .i64 x2.year, .int .i64 x2.de, .int .i64 x2.oo] TA)) = w0 at *
        generalize hp : w.heap.size = p at *
        obtain ⟨q, hq⟩ : ∃ q, q = p + 1 := ⟨_, rfl⟩
        rw [← hq] at HY ⊢
        clear hq
        have HB0 := Lib.hid HBox.out
        clear HBox
        go_wp2_with fail
        try (go_at_call 13)
        refine (HM.out).mono ?_
        rintro e w1 ⟨rfl, hb1⟩
        have HB1 := Lib.hid (below_tr hp HB0.out hb1)
        have HX1 := Lib.hid (keepB HX.out hb1)
        have HY1 := Lib.hid (keepB HY.out hb1)
        clear hb1 HB0 HM HX HY
        obtain ⟨q0, q1, q2, q3, q4⟩ := cells5 HX1.out
        obtain ⟨r0, r1, r2, r3, r4⟩ := cells5 HY1.out
        go_wp2_with fail
        try (go_at_call 14)
        refine (HA.out w1 (HRlo.out w1 HB1.out)).mono ?_
        rintro e w2 ⟨v2, rfl, ho2, hb2⟩
        have HB2 := Lib.hid (below_tr hp HB1.out hb2)
        have HX2 := Lib.hid (keepB HX1.out hb2)
        have HY2 := Lib.hid (keepB HY1.out hb2)
        have HP2 := Lib.hid (rws_of_own (K := All) ho2 fun _ _ => trivial)
        obtain ⟨xa, xc, rfl, -, -⟩ := own_form ho2
        clear hb2 HB1 ho2 HA HX1 HY1 q0 q1 q2 q3 q4 r0 r1 r2 r3 r4
        obtain ⟨q0, q1, q2, q3, q4⟩ := cells5 HX2.out
        obtain ⟨r0, r1, r2, r3, r4⟩ := cells5 HY2.out
        go_wp2_with fail
        try (go_at_call 14)
        refine (HD.out w2 (HRlo.out w2 HB2.out)).mono ?_
        rintro e w3 ⟨v3, rfl, ho3, hb3⟩
        have HB3 := Lib.hid (below_tr hp HB2.out hb3)
        have HX3 := Lib.hid (keepB HX2.out hb3)
        have HY3 := Lib.hid (keepB HY2.out hb3)
        have HP3 := Lib.hid (HP2.out.grw hb3)
        have HQ3 := Lib.hid (rws_of_own (K := All) ho3 fun _ _ => trivial)
        obtain ⟨ya, yc, rfl, -, -⟩ := own_form ho3
        clear hb3 HB2 ho3 HD HP2 HX2 HY2 q0 q1 q2 q3 q4 r0 r1 r2 r3 r4
        obtain ⟨q0, q1, q2, q3, q4⟩ := cells5 HX3.out
        obtain ⟨r0, r1, r2, r3, r4⟩ := cells5 HY3.out
        by_cases e1 : E1 = 0
        · have n1 : (E1 != 0) = false := by simp [e1]
          by_cases e2 : E2 = 0
          · have n2 : (E2 != 0) = false := by simp [e2]
            obtain ⟨k1, k2⟩ := HK.out e1 e2
            have HA3 := Lib.hid fun W v hW => (HE3.out e1 W v hW)
            have HA4 := Lib.hid fun W v hW => (HE4.out e2 W v hW)
            rw [← k1, ← k2] at HA4
            clear k1 k2 e1 e2 HK HE3 HE4
            go_wp2_with fail
            try (go_at_call 14)
            refine (HA3.out w3 _ HP3.out).mono ?_
            rintro e w4 ⟨v4, rfl, ho4, hb4⟩
            have HB4 := Lib.hid (below_tr hp HB3.out hb4)
            have HX4 := Lib.hid (keepB HX3.out hb4)
            have HY4 := Lib.hid (keepB HY3.out hb4)
            have HQ4 := Lib.hid (HQ3.out.grw hb4)
            have HR4 := Lib.hid (rws_of_own (K := All) ho4 fun _ _ => trivial)
            obtain ⟨za, zc, rfl, -, -⟩ := own_form ho4
            clear hb4 HB3 ho4 HA3 HP3 HQ3 HX3 HY3 q0 q1 q2 q3 q4 r0 r1 r2 r3 r4
            obtain ⟨q0, q1, q2, q3, q4⟩ := cells5 HX4.out
            obtain ⟨r0, r1, r2, r3, r4⟩ := cells5 HY4.out
            go_wp2_with fail
            try (go_at_call 14)
            refine (HA4.out w4 _ HQ4.out).mono ?_
            rintro e w5 ⟨v5, rfl, ho5, hb5⟩
            have HB5 := Lib.hid (below_tr hp HB4.out hb5)
            have HR5 := Lib.hid (HR4.out.grw hb5)
            have HS5 := Lib.hid (rws_of_own (K := All) ho5 fun _ _ => trivial)
            obtain ⟨ua, uc, rfl, -, -⟩ := own_form ho5
            clear hb5 HB4 ho5 HA4 HQ4 HR4 HX4 HY4 q0 q1 q2 q3 q4 r0 r1 r2 r3 r4
            go_wp2_with fail
            try (go_at_call 16)
            refine (same_eq V3 _ _ w5 HR5.out HS5.out HVl.out).mono ?_
            rintro e w6 ⟨rfl, hb6⟩
            have HB6 := Lib.hid (below_tr hp HB5.out hb6)
            clear hb6 HB5 HR5 HS5
            go_wp2_with fail
            try (go_at_call 10)
            refine (HW.out w6).mono ?_
            rintro e w7 ⟨rfl, hb7⟩
            have HB7 := Lib.hid (below_tr hp HB6.out hb7)
            clear hb7 HB6 
            go_wp2
            go_ret
            exact ⟨rfl, by first | exact HB7.out | (rw [hp]; exact HB7.out)⟩
          · have n2 : (E2 != 0) = true := by simp [e2]
            clear HE3 HE4 HK e1 e2
            go_wp2_with fail
            try (go_at_call 10)
            refine (HW.out w3).mono ?_
            rintro e w4 ⟨rfl, hb4⟩
            have HB4 := Lib.hid (below_tr hp HB3.out hb4)
            clear hb4 HB3 
            go_wp2
            go_ret
            exact ⟨rfl, by first | exact HB4.out | (rw [hp]; exact HB4.out)⟩
        · have n1 : (E1 != 0) = true := by simp [e1]
          clear HE3 HE4 HK e1
          go_wp2_with fail
          try (go_at_call 10)
          refine (HW.out w3).mono ?_
          rintro e w4 ⟨rfl, hb4⟩
          have HB4 := Lib.hid (below_tr hp HB3.out hb4)
          clear hb4 HB3 
          go_wp2
          go_ret
          exact ⟨rfl, by first | exact HB4.out | (rw [hp]; exact HB4.out)⟩

/-! ### the row's step -/
theorem laidOut : laidOutB Try.prog = true := by kernel_rfl
theorem lifted (os : Os) (started : os.Started) (H : Type) (enc : TypeId × Value → H) :
    ReturnsInHanded {} Try.checked os 8 .any (Rows.accsOrderSpec.pre6 enc Try.prog Try.f8 Rows.accsOrderRow.domain false) (Rows.accsOrderSpec.post enc Try.prog Try.f8 false true false false) := by
  refine returnsInHanded_of_change_shaped (C := Try.checked) own started (by kernel_rfl) Try.func8
    (ChangeSpec.witness6 (enc := enc) (C := Try.checked) false ⟨#[], #[.slice none 0 0, .agg #[.string ByteArray.empty, .bool false, .int .i64 0, .int .i64 0, .int .i64 0], .agg #[.string ByteArray.empty, .bool false, .int .i64 0, .int .i64 0, .int .i64 0]], []⟩ 8 (by kernel_rfl) (by kernel_rfl) (by kernel_rfl) (by kernel_rfl)) ?_
  intro W base args ds gs before hval0 hW hcnd hwt _ _
  have hval : ∀ (j : Nat) t v, Try.f8.params[j]? = some t → args[j]? = some v → Value.okWide Try.prog W .any base t v := hval0
  have hW' := hW
  obtain ⟨p, q, hA0, hV, rfl, hfz, hnd⟩ := hW
  have hA : DataW.TrodAll enc Try.prog W 0 (fun _ => true) true Try.f8.params.toList args.toList ds p := hA0
  rw [Try.params8] at hA hval hwt
  obtain ⟨v0, vs0, d0, ds0, p0, q0, hargs, rfl, rfl, h0, r0⟩ := trodAll_cons hA
  obtain ⟨v1, vs1, d1, ds1, p1, q1, rfl, rfl, rfl, h1, r1⟩ := trodAll_cons r0
  obtain ⟨v2, vs2, d2, ds2, p2, q2, rfl, rfl, rfl, h2, r2⟩ := trodAll_cons r1
  obtain ⟨rfl, rfl, rfl⟩ := trodAll_nil r2
  obtain rfl : args = #[v0, v1, v2] := by cases args; simp_all
  obtain ⟨rfl, rfl⟩ := trodVars_none hV
  have hwl : ∀ z, (z ∈ d0.weights Try.prog 22 → z ≤ reachBytes) ∧ (z ∈ d1.weights Try.prog 31 → z ≤ reachBytes) ∧ (z ∈ d2.weights Try.prog 31 → z ≤ reachBytes) := fun z => by
    have h := List.all_eq_true.1 hwt z
    simp only [decide_eq_true_eq] at h
    refine ⟨fun hz => h ?_, fun hz => h ?_, fun hz => h ?_⟩
    all_goals
      simp only [List.cons_append, List.nil_append, List.toList_toArray, List.append_nil, DataW.weightsEach, List.mem_append]
      first | exact Or.inl hz | exact Or.inr (Or.inl hz) | exact Or.inr (Or.inr (Or.inl hz)) | exact Or.inr (Or.inr (Or.inr (Or.inl hz))) | exact Or.inr (Or.inr (Or.inr (Or.inr (Or.inl hz)))) | exact Or.inr (Or.inr (Or.inr (Or.inr (Or.inr (Or.inl hz))))) | exact Or.inr (Or.inr (Or.inr (Or.inr (Or.inr (Or.inr (Or.inl hz)))))) | simp [hz]
  have k0 := h0
  have lt0 : ∀ x ∈ p0, x.block < W.heap.size := by obtain ⟨m, hm⟩ := k0; exact DataW.trod_lt m _ _ _ hm
  obtain ⟨l0, g0, z0⟩ := Ao.open_rows (okWide_slice Try.underlying22 (hval 0 22 v0 rfl rfl)) h0
  have k1 := h1
  have lt1 : ∀ x ∈ p1, x.block < W.heap.size := by obtain ⟨m, hm⟩ := k1; exact DataW.trod_lt m _ _ _ hm
  obtain ⟨x1, rfl, z1⟩ := Ao.open_acc (hval 1 31 v1 rfl rfl) h1
  have k2 := h2
  have lt2 : ∀ x ∈ p2, x.block < W.heap.size := by obtain ⟨m, hm⟩ := k2; exact DataW.trod_lt m _ _ _ hm
  obtain ⟨x2, rfl, z2⟩ := Ao.open_acc (hval 2 31 v2 rfl rfl) h2
  clear hA0 hval0
  refine (walk W v0 l0 g0 z0 x1 z1 x2 z2).mono fun e W' ⟨he, bel⟩ => ?_
  subst he
  exact ⟨_, rfl, _, _, _, [], _, [], hW', (trodAll_cons_mk (shut_bool Try.underlying4 _) trodAll_mk0), (trodAll_cons_mk (Below.trod laidOut (by kernel_rfl) (of_decide_eq_true (by kernel_rfl)) k0 bel lt0) (trodAll_cons_mk (Below.trod laidOut (by kernel_rfl) (of_decide_eq_true (by kernel_rfl)) k1 bel lt1) (trodAll_cons_mk (Below.trod laidOut (by kernel_rfl) (of_decide_eq_true (by kernel_rfl)) k2 bel lt2) trodAll_mk0))), rfl, bel.frame _, fun h => by cases h⟩

theorem over : Rows.accsOrderRow.holds Try.pinned (OpenSpec.ofChange Rows.accsOrderSpec) :=
  OpenClaim.holds_of_wide 8 Try.f8 rfl rfl rfl rfl rfl rfl rfl ⟨rfl, rfl, rfl, rfl, rfl⟩ rfl rfl rfl rfl rfl (by kernel_rfl) Try.func8 (by kernel_rfl)
    (of_decide_eq_true (by kernel_rfl)) (by unfold Func.isWrapper; first | (rw [if_pos (by decide +kernel)]; kernel_rfl) | (rw [if_neg (by decide +kernel)]; exact ⟨rfl, rfl⟩))
    (fun os started H enc _ => lifted os started H enc)

/-- The statement. -/
theorem proved : Rows.AccsOrderSaid := over
end Go.Proofs.Ytdppelkfcnbgbaa.accsOrder
namespace Go.Proofs.Ytdppelkfcnbgbaa
theorem accsOrder_holds : Rows.AccsOrderSaid := accsOrder.proved
#print axioms accsOrder_holds
end Go.Proofs.Ytdppelkfcnbgbaa
