/-
  The statement AccsBoth (16.4): what is counted of a service, for member and family, is what the chapter says, for all rows that may be; without a condition.
-/
import Derived.Test.YtdppelkfcnbgbaaRows
import Derived.WalkKit
import Derived.ProofKit
import Derived.OpenShut
import Derived.ShutString
import Derived.Below
import Derived.Carry
import Derived.Laws.Cover2
import Derived.HandedShaped
import Derived.Test.YtdppelkfcnbgbaaYWorks
import Derived.Test.YtdppelkfcnbgbaaYMay
import Derived.Test.YtdppelkfcnbgbaaYRRoom
import Derived.Test.YtdppelkfcnbgbaaYOpen
namespace Go.Proofs.Ytdppelkfcnbgbaa.accsBoth
open Go.ChangeShapes Go.WideShapes Go.ChangeAt Go.RowKit
open Ac
open Go.ChangeMaps (open_string)
set_option linter.unusedVariables false
set_option linter.unusedSimpArgs false
set_option maxRecDepth 100000

theorem own : ownKnob Try.prog.godebug = none := by kernel_rfl

/-! ### the walk: the law returns true -/
set_option maxHeartbeats 16000000 in
theorem walk (w : World) (v0 : Value) (l0 : List Row) (h0 : RwsAt All w v0 l0) (z0 : ∀ x ∈ l0, Ao.I64 x.year) (t1 : Tx) (t2 : Tx) (a3 : Int) (z3 : Ao.I64 a3) (o4 : Sh.Ot) :
    Calls Try.prog 5 #[v0, .string (mk t1), .string (mk t2), .int .i64 a3, .agg #[.int .i64 o4.al, .int .i64 o4.de, .int .i64 o4.cp, .int .i64 o4.cn, .int .i64 o4.plan, .int .i64 o4.wr, .int .i64 o4.pr, .int .i64 o4.deny]] w fun e w' => e = .returned (.bool true) ∧ Below w.heap.size w w' := by
  have HW := Lib.hid works_any
  have hb0 := below_alloc w (.cells #[.int .i64 o4.al, .int .i64 o4.de, .int .i64 o4.cp, .int .i64 o4.cn, .int .i64 o4.plan, .int .i64 o4.wr, .int .i64 o4.pr, .int .i64 o4.deny] 35)
  have HX := Lib.hid (alloc_new w #[.int .i64 o4.al, .int .i64 o4.de, .int .i64 o4.cp, .int .i64 o4.cn, .int .i64 o4.plan, .int .i64 o4.wr, .int .i64 o4.pr, .int .i64 o4.deny] 35)
  have HBox := Lib.hid hb0
  have HM := Lib.hid (may_any l0 v0 _ (h0.grw hb0))
  have HRlo : Hid (∀ W, Below w.heap.size w W → RwsAt All W v0 l0) := fun W hW => ((rws_lo h0).move (Below.moves_lo hW)).all
  have HBg := Lib.hid big_any
  clear hb0
  cases hm : mayB l0 with
  | false =>
    rw [hm] at HM
    obtain ⟨fa, fk, rfl, hm1, hm2⟩ := h0.form
    clear h0 hm
    go_enter Try.func5, Try.ntmps5
    go_upto_region 1 with fail
    generalize w.alloc (.cells #[.int .i64 o4.al, .int .i64 o4.de, .int .i64 o4.cp, .int .i64 o4.cn, .int .i64 o4.plan, .int .i64 o4.wr, .int .i64 o4.pr, .int .i64 o4.deny] 35) = w0 at *
    generalize hp : w.heap.size = p at *
    have HB0 := Lib.hid HBox.out
    clear HBox
    go_wp2_with fail
    try (go_at_call 13)
    refine (HM.out).mono ?_
    rintro e w1 ⟨rfl, hb1⟩
    have HB1 := Lib.hid (below_tr hp HB0.out hb1)
    have HX1 := Lib.hid (keepB HX.out hb1)
    clear HX hb1 HB0 HM
    go_wp2_with fail
    try (go_at_call 10)
    refine (HW.out w1).mono ?_
    rintro e w2 ⟨rfl, hb2⟩
    have HB2 := Lib.hid (below_tr hp HB1.out hb2)
    clear hb2 HB1 
    go_wp2
    go_ret
    exact ⟨rfl, by first | exact HB2.out | (rw [hp]; exact HB2.out)⟩
  | true =>
    obtain ⟨⟨h3, -⟩, hO⟩ := (may_iff l0).1 hm
    by_cases c1 : (60 : Int) < ((mk t1).size : Int)
    · rw [hm] at HM
      obtain ⟨fa, fk, rfl, hm1, hm2⟩ := h0.form
      clear h0 hm
      go_enter Try.func5, Try.ntmps5
      go_upto_region 1 with fail
      generalize w.alloc (.cells #[.int .i64 o4.al, .int .i64 o4.de, .int .i64 o4.cp, .int .i64 o4.cn, .int .i64 o4.plan, .int .i64 o4.wr, .int .i64 o4.pr, .int .i64 o4.deny] 35) = w0 at *
      generalize hp : w.heap.size = p at *
      have HB0 := Lib.hid HBox.out
      clear HBox
      go_wp2_with fail
      try (go_at_call 13)
      refine (HM.out).mono ?_
      rintro e w1 ⟨rfl, hb1⟩
      have HB1 := Lib.hid (below_tr hp HB0.out hb1)
      have HX1 := Lib.hid (keepB HX.out hb1)
      clear HX hb1 HB0 HM
      obtain ⟨q0, q1, q2, q3, q4, q5, q6, q7⟩ := eight HX1.out
      go_wp2_with fail
      try (go_at_call 10)
      refine (HW.out w1).mono ?_
      rintro e w2 ⟨rfl, hb2⟩
      have HB2 := Lib.hid (below_tr hp HB1.out hb2)
      clear hb2 HB1 
      go_wp2
      go_ret
      exact ⟨rfl, by first | exact HB2.out | (rw [hp]; exact HB2.out)⟩
    · by_cases c2 : (60 : Int) < ((mk t2).size : Int)
      · rw [hm] at HM
        obtain ⟨fa, fk, rfl, hm1, hm2⟩ := h0.form
        clear h0 hm
        go_enter Try.func5, Try.ntmps5
        go_upto_region 1 with fail
        generalize w.alloc (.cells #[.int .i64 o4.al, .int .i64 o4.de, .int .i64 o4.cp, .int .i64 o4.cn, .int .i64 o4.plan, .int .i64 o4.wr, .int .i64 o4.pr, .int .i64 o4.deny] 35) = w0 at *
        generalize hp : w.heap.size = p at *
        have HB0 := Lib.hid HBox.out
        clear HBox
        go_wp2_with fail
        try (go_at_call 13)
        refine (HM.out).mono ?_
        rintro e w1 ⟨rfl, hb1⟩
        have HB1 := Lib.hid (below_tr hp HB0.out hb1)
        have HX1 := Lib.hid (keepB HX.out hb1)
        clear HX hb1 HB0 HM
        obtain ⟨q0, q1, q2, q3, q4, q5, q6, q7⟩ := eight HX1.out
        go_wp2_with fail
        try (go_at_call 10)
        refine (HW.out w1).mono ?_
        rintro e w2 ⟨rfl, hb2⟩
        have HB2 := Lib.hid (below_tr hp HB1.out hb2)
        clear hb2 HB1 
        go_wp2
        go_ret
        exact ⟨rfl, by first | exact HB2.out | (rw [hp]; exact HB2.out)⟩
      · cases g0 : bigB o4.de with
        | true =>
          rw [hm] at HM
          obtain ⟨fa, fk, rfl, hm1, hm2⟩ := h0.form
          clear h0 hm
          go_enter Try.func5, Try.ntmps5
          go_upto_region 1 with fail
          generalize w.alloc (.cells #[.int .i64 o4.al, .int .i64 o4.de, .int .i64 o4.cp, .int .i64 o4.cn, .int .i64 o4.plan, .int .i64 o4.wr, .int .i64 o4.pr, .int .i64 o4.deny] 35) = w0 at *
          generalize hp : w.heap.size = p at *
          have HB0 := Lib.hid HBox.out
          clear HBox
          go_wp2_with fail
          try (go_at_call 13)
          refine (HM.out).mono ?_
          rintro e w1 ⟨rfl, hb1⟩
          have HB1 := Lib.hid (below_tr hp HB0.out hb1)
          have HX1 := Lib.hid (keepB HX.out hb1)
          clear HX hb1 HB0 HM
          obtain ⟨q0, q1, q2, q3, q4, q5, q6, q7⟩ := eight HX1.out
          go_wp2_with fail
          try (go_at_call 19)
          refine (HBg.out _ w1).mono ?_
          rintro e w' ⟨rfl, hw⟩
          rw [hw, g0]
          clear hw w'
          go_wp2_with fail
          try (go_at_call 10)
          refine (HW.out w1).mono ?_
          rintro e w2 ⟨rfl, hb2⟩
          have HB2 := Lib.hid (below_tr hp HB1.out hb2)
          clear hb2 HB1 
          go_wp2
          go_ret
          exact ⟨rfl, by first | exact HB2.out | (rw [hp]; exact HB2.out)⟩
        | false =>
          cases g1 : bigB o4.cp with
          | true =>
            rw [hm] at HM
            obtain ⟨fa, fk, rfl, hm1, hm2⟩ := h0.form
            clear h0 hm
            go_enter Try.func5, Try.ntmps5
            go_upto_region 1 with fail
            generalize w.alloc (.cells #[.int .i64 o4.al, .int .i64 o4.de, .int .i64 o4.cp, .int .i64 o4.cn, .int .i64 o4.plan, .int .i64 o4.wr, .int .i64 o4.pr, .int .i64 o4.deny] 35) = w0 at *
            generalize hp : w.heap.size = p at *
            have HB0 := Lib.hid HBox.out
            clear HBox
            go_wp2_with fail
            try (go_at_call 13)
            refine (HM.out).mono ?_
            rintro e w1 ⟨rfl, hb1⟩
            have HB1 := Lib.hid (below_tr hp HB0.out hb1)
            have HX1 := Lib.hid (keepB HX.out hb1)
            clear HX hb1 HB0 HM
            obtain ⟨q0, q1, q2, q3, q4, q5, q6, q7⟩ := eight HX1.out
            go_wp2_with fail
            try (go_at_call 19)
            refine (HBg.out _ w1).mono ?_
            rintro e w' ⟨rfl, hw⟩
            rw [hw, g0]
            clear hw w'
            go_wp2_with fail
            try (go_at_call 19)
            refine (HBg.out _ w1).mono ?_
            rintro e w' ⟨rfl, hw⟩
            rw [hw, g1]
            clear hw w'
            go_wp2_with fail
            try (go_at_call 10)
            refine (HW.out w1).mono ?_
            rintro e w2 ⟨rfl, hb2⟩
            have HB2 := Lib.hid (below_tr hp HB1.out hb2)
            clear hb2 HB1 
            go_wp2
            go_ret
            exact ⟨rfl, by first | exact HB2.out | (rw [hp]; exact HB2.out)⟩
          | false =>
            cases g2 : bigB o4.cn with
            | true =>
              rw [hm] at HM
              obtain ⟨fa, fk, rfl, hm1, hm2⟩ := h0.form
              clear h0 hm
              go_enter Try.func5, Try.ntmps5
              go_upto_region 1 with fail
              generalize w.alloc (.cells #[.int .i64 o4.al, .int .i64 o4.de, .int .i64 o4.cp, .int .i64 o4.cn, .int .i64 o4.plan, .int .i64 o4.wr, .int .i64 o4.pr, .int .i64 o4.deny] 35) = w0 at *
              generalize hp : w.heap.size = p at *
              have HB0 := Lib.hid HBox.out
              clear HBox
              go_wp2_with fail
              try (go_at_call 13)
              refine (HM.out).mono ?_
              rintro e w1 ⟨rfl, hb1⟩
              have HB1 := Lib.hid (below_tr hp HB0.out hb1)
              have HX1 := Lib.hid (keepB HX.out hb1)
              clear HX hb1 HB0 HM
              obtain ⟨q0, q1, q2, q3, q4, q5, q6, q7⟩ := eight HX1.out
              go_wp2_with fail
              try (go_at_call 19)
              refine (HBg.out _ w1).mono ?_
              rintro e w' ⟨rfl, hw⟩
              rw [hw, g0]
              clear hw w'
              go_wp2_with fail
              try (go_at_call 19)
              refine (HBg.out _ w1).mono ?_
              rintro e w' ⟨rfl, hw⟩
              rw [hw, g1]
              clear hw w'
              go_wp2_with fail
              try (go_at_call 19)
              refine (HBg.out _ w1).mono ?_
              rintro e w' ⟨rfl, hw⟩
              rw [hw, g2]
              clear hw w'
              go_wp2_with fail
              try (go_at_call 10)
              refine (HW.out w1).mono ?_
              rintro e w2 ⟨rfl, hb2⟩
              have HB2 := Lib.hid (below_tr hp HB1.out hb2)
              clear hb2 HB1 
              go_wp2
              go_ret
              exact ⟨rfl, by first | exact HB2.out | (rw [hp]; exact HB2.out)⟩
            | false =>
              have hs : Small o4 := ⟨big_not g0, big_not g1, big_not g2⟩
              have HA := Lib.hid fun W (hW : RwsAt All W v0 l0) => both_any l0 t1 t2 a3 o4 v0 W hW (by omega) hO hs
              have HD := Lib.hid fun W (hW : RwsAt All W v0 l0) => rboth_any l0 t1 t2 a3 o4 v0 W hW (by omega) hs
              have HVl : Hid ((bothV l0 t1 t2 a3 o4).length ≤ 100000) := by
                have x1 := add_len l0 t1 false a3 o4.de (Sh.member o4)
                have x2 := add_len (addV l0 t1 false a3 o4.de (Sh.member o4)) t2 true a3 o4.de (Sh.member o4)
                show _ ≤ _
                unfold bothV
                split
                · omega
                · simp
              generalize bothE l0 t1 t2 a3 o4 = E at *
              generalize bothV l0 t1 t2 a3 o4 = V at *
              clear hO hs
              rw [hm] at HM
              obtain ⟨fa, fk, rfl, hm1, hm2⟩ := h0.form
              clear h0 hm
              go_enter Try.func5, Try.ntmps5
              go_upto_region 1 with fail
              generalize w.alloc (.cells #[.int .i64 o4.al, .int .i64 o4.de, .int .i64 o4.cp, .int .i64 o4.cn, .int .i64 o4.plan, .int .i64 o4.wr, .int .i64 o4.pr, .int .i64 o4.deny] 35) = w0 at *
              generalize hp : w.heap.size = p at *
              have HB0 := Lib.hid HBox.out
              clear HBox
              go_wp2_with fail
              try (go_at_call 13)
              refine (HM.out).mono ?_
              rintro e w1 ⟨rfl, hb1⟩
              have HB1 := Lib.hid (below_tr hp HB0.out hb1)
              have HX1 := Lib.hid (keepB HX.out hb1)
              clear HX hb1 HB0 HM
              obtain ⟨q0, q1, q2, q3, q4, q5, q6, q7⟩ := eight HX1.out
              go_wp2_with fail
              try (go_at_call 19)
              refine (HBg.out _ w1).mono ?_
              rintro e w' ⟨rfl, hw⟩
              rw [hw, g0]
              clear hw w'
              go_wp2_with fail
              try (go_at_call 19)
              refine (HBg.out _ w1).mono ?_
              rintro e w' ⟨rfl, hw⟩
              rw [hw, g1]
              clear hw w'
              go_wp2_with fail
              try (go_at_call 19)
              refine (HBg.out _ w1).mono ?_
              rintro e w' ⟨rfl, hw⟩
              rw [hw, g2]
              clear hw w'
              go_wp2_with fail
              try (go_at_call 20)
              refine (HA.out w1 (HRlo.out w1 HB1.out)).mono ?_
              rintro e w2 ⟨v2, rfl, ho2, hb2⟩
              have HB2 := Lib.hid (below_tr hp HB1.out hb2)
              have HX2 := Lib.hid (keepB HX1.out hb2)
              have HV2 := Lib.hid (rws_of_own (K := All) ho2 fun _ _ => trivial)
              obtain ⟨xa, xc, rfl, -, -⟩ := own_form ho2
              clear hb2 HB1 ho2 HA HX1 q0 q1 q2 q3 q4 q5 q6 q7
              obtain ⟨q0, q1, q2, q3, q4, q5, q6, q7⟩ := eight HX2.out
              go_wp2_with fail
              try (go_at_call 21)
              refine (HD.out w2 (HRlo.out w2 HB2.out)).mono ?_
              rintro e w3 ⟨v3, rfl, ho3, hb3⟩
              have HB3 := Lib.hid (below_tr hp HB2.out hb3)
              have HV3 := Lib.hid (HV2.out.grw hb3)
              have HU3 := Lib.hid (rws_of_own (K := All) ho3 fun _ _ => trivial)
              obtain ⟨ya, yc, rfl, -, -⟩ := own_form ho3
              clear hb3 HB2 ho3 HD HV2 HX2 q0 q1 q2 q3 q4 q5 q6 q7
              go_wp2_with fail
              try (go_at_call 16)
              refine (same_eq V _ _ w3 HV3.out HU3.out HVl.out).mono ?_
              rintro e w4 ⟨rfl, hb4⟩
              have HB4 := Lib.hid (below_tr hp HB3.out hb4)
              clear hb4 HB3 HV3 HU3
              go_wp2_with fail
              try (go_at_call 10)
              refine (HW.out w4).mono ?_
              rintro e w5 ⟨rfl, hb5⟩
              have HB5 := Lib.hid (below_tr hp HB4.out hb5)
              clear hb5 HB4 
              go_wp2
              go_ret
              exact ⟨rfl, by first | exact HB5.out | (rw [hp]; exact HB5.out)⟩

/-! ### the row's step -/
theorem laidOut : laidOutB Try.prog = true := by kernel_rfl
theorem lifted (os : Os) (started : os.Started) (H : Type) (enc : TypeId × Value → H) :
    ReturnsInHanded {} Try.checked os 5 .any (Rows.accsBothSpec.pre6 enc Try.prog Try.f5 Rows.accsBothRow.domain false) (Rows.accsBothSpec.post enc Try.prog Try.f5 false true false false) := by
  refine returnsInHanded_of_change_shaped (C := Try.checked) own started (by kernel_rfl) Try.func5
    (ChangeSpec.witness6 (enc := enc) (C := Try.checked) false ⟨#[], #[.slice none 0 0, .string ByteArray.empty, .string ByteArray.empty, .int .i64 0, .agg #[.int .i64 0, .int .i64 0, .int .i64 0, .int .i64 0, .int .i64 0, .int .i64 0, .int .i64 0, .int .i64 0]], []⟩ 8 (by kernel_rfl) (by kernel_rfl) (by kernel_rfl) (by kernel_rfl)) ?_
  intro W base args ds gs before hval0 hW hcnd hwt _ _
  have hval : ∀ (j : Nat) t v, Try.f5.params[j]? = some t → args[j]? = some v → Value.okWide Try.prog W .any base t v := hval0
  have hW' := hW
  obtain ⟨p, q, hA0, hV, rfl, hfz, hnd⟩ := hW
  have hA : DataW.TrodAll enc Try.prog W 0 (fun _ => true) true Try.f5.params.toList args.toList ds p := hA0
  rw [Try.params5] at hA hval hwt
  obtain ⟨v0, vs0, d0, ds0, p0, q0, hargs, rfl, rfl, h0, r0⟩ := trodAll_cons hA
  obtain ⟨v1, vs1, d1, ds1, p1, q1, rfl, rfl, rfl, h1, r1⟩ := trodAll_cons r0
  obtain ⟨v2, vs2, d2, ds2, p2, q2, rfl, rfl, rfl, h2, r2⟩ := trodAll_cons r1
  obtain ⟨v3, vs3, d3, ds3, p3, q3, rfl, rfl, rfl, h3, r3⟩ := trodAll_cons r2
  obtain ⟨v4, vs4, d4, ds4, p4, q4, rfl, rfl, rfl, h4, r4⟩ := trodAll_cons r3
  obtain ⟨rfl, rfl, rfl⟩ := trodAll_nil r4
  obtain rfl : args = #[v0, v1, v2, v3, v4] := by cases args; simp_all
  obtain ⟨rfl, rfl⟩ := trodVars_none hV
  have hwl : ∀ z, (z ∈ d0.weights Try.prog 22 → z ≤ reachBytes) ∧ (z ∈ d1.weights Try.prog 9 → z ≤ reachBytes) ∧ (z ∈ d2.weights Try.prog 9 → z ≤ reachBytes) ∧ (z ∈ d3.weights Try.prog 3 → z ≤ reachBytes) ∧ (z ∈ d4.weights Try.prog 35 → z ≤ reachBytes) := fun z => by
    have h := List.all_eq_true.1 hwt z
    simp only [decide_eq_true_eq] at h
    refine ⟨fun hz => h ?_, fun hz => h ?_, fun hz => h ?_, fun hz => h ?_, fun hz => h ?_⟩
    all_goals
      simp only [List.cons_append, List.nil_append, List.toList_toArray, List.append_nil, DataW.weightsEach, List.mem_append]
      first | exact Or.inl hz | exact Or.inr (Or.inl hz) | exact Or.inr (Or.inr (Or.inl hz)) | exact Or.inr (Or.inr (Or.inr (Or.inl hz))) | exact Or.inr (Or.inr (Or.inr (Or.inr (Or.inl hz)))) | exact Or.inr (Or.inr (Or.inr (Or.inr (Or.inr (Or.inl hz))))) | exact Or.inr (Or.inr (Or.inr (Or.inr (Or.inr (Or.inr (Or.inl hz)))))) | simp [hz]
  have k0 := h0
  have lt0 : ∀ x ∈ p0, x.block < W.heap.size := by obtain ⟨m, hm⟩ := k0; exact DataW.trod_lt m _ _ _ hm
  obtain ⟨l0, g0, z0⟩ := Ao.open_rows (okWide_slice Try.underlying22 (hval 0 22 v0 rfl rfl)) h0
  have k1 := h1
  have lt1 : ∀ x ∈ p1, x.block < W.heap.size := by obtain ⟨m, hm⟩ := k1; exact DataW.trod_lt m _ _ _ hm
  obtain ⟨a1, rfl, _, _, w1⟩ := open_string Try.underlying9 (hval 1 9 v1 rfl rfl) h1
  obtain ⟨t1, rfl⟩ : ∃ t : Tx, a1 = mk t := ⟨a1.data.toList, (mk_of _).symm⟩
  have k2 := h2
  have lt2 : ∀ x ∈ p2, x.block < W.heap.size := by obtain ⟨m, hm⟩ := k2; exact DataW.trod_lt m _ _ _ hm
  obtain ⟨a2, rfl, _, _, w2⟩ := open_string Try.underlying9 (hval 2 9 v2 rfl rfl) h2
  obtain ⟨t2, rfl⟩ : ∃ t : Tx, a2 = mk t := ⟨a2.data.toList, (mk_of _).symm⟩
  have k3 := h3
  have lt3 : ∀ x ∈ p3, x.block < W.heap.size := by obtain ⟨m, hm⟩ := k3; exact DataW.trod_lt m _ _ _ hm
  obtain ⟨a3, rfl, _, _, w3⟩ := open_int Try.underlying3 (hval 3 3 v3 rfl rfl) h3
  have k4 := h4
  have lt4 : ∀ x ∈ p4, x.block < W.heap.size := by obtain ⟨m, hm⟩ := k4; exact DataW.trod_lt m _ _ _ hm
  obtain ⟨o4, rfl⟩ := Ao.open_out (hval 4 35 v4 rfl rfl) h4
  clear hA0 hval0
  refine (walk W v0 l0 g0 z0 t1 t2 a3 (Ao.i64_of w3) o4).mono fun e W' ⟨he, bel⟩ => ?_
  subst he
  exact ⟨_, rfl, _, _, _, [], _, [], hW', (trodAll_cons_mk (shut_bool Try.underlying4 _) trodAll_mk0), (trodAll_cons_mk (Below.trod laidOut (by kernel_rfl) (of_decide_eq_true (by kernel_rfl)) k0 bel lt0) (trodAll_cons_mk (Below.trod laidOut (by kernel_rfl) (of_decide_eq_true (by kernel_rfl)) k1 bel lt1) (trodAll_cons_mk (Below.trod laidOut (by kernel_rfl) (of_decide_eq_true (by kernel_rfl)) k2 bel lt2) (trodAll_cons_mk (Below.trod laidOut (by kernel_rfl) (of_decide_eq_true (by kernel_rfl)) k3 bel lt3) (trodAll_cons_mk (Below.trod laidOut (by kernel_rfl) (of_decide_eq_true (by kernel_rfl)) k4 bel lt4) trodAll_mk0))))), rfl, bel.frame _, fun h => by cases h⟩

theorem over : Rows.accsBothRow.holds Try.pinned (OpenSpec.ofChange Rows.accsBothSpec) :=
  OpenClaim.holds_of_wide 5 Try.f5 rfl rfl rfl rfl rfl rfl rfl ⟨rfl, rfl, rfl, rfl, rfl⟩ rfl rfl rfl rfl rfl (by kernel_rfl) Try.func5 (by kernel_rfl)
    (of_decide_eq_true (by kernel_rfl)) (by unfold Func.isWrapper; first | (rw [if_pos (by decide +kernel)]; kernel_rfl) | (rw [if_neg (by decide +kernel)]; exact ⟨rfl, rfl⟩))
    (fun os started H enc _ => lifted os started H enc)

/-- The statement. -/
theorem proved : Rows.AccsBothSaid := over
end Go.Proofs.Ytdppelkfcnbgbaa.accsBoth
namespace Go.Proofs.Ytdppelkfcnbgbaa
theorem accsBoth_holds : Rows.AccsBothSaid := accsBoth.proved
#print axioms accsBoth_holds
end Go.Proofs.Ytdppelkfcnbgbaa
