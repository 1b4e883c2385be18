/-
  The statement AccsRooms (16.5): what is left of deductible and limit is what the chapter says, by any plan and rows that may be, and not below nothing; without a condition.
-/
import Derived.Test.YtdppelkfcnbgbaaRows
import Derived.WalkKit
import Derived.ProofKit
import Derived.OpenShut
import Derived.ShutString
import Derived.Below
import Derived.Carry
import Derived.Laws.Cover2
import Derived.HandedShaped
import Derived.Test.YtdppelkfcnbgbaaYWorks
import Derived.Test.YtdppelkfcnbgbaaYMay
import Derived.Test.YtdppelkfcnbgbaaYPlan
import Derived.Test.YtdppelkfcnbgbaaYOpen
import Derived.Test.YtdppelkfcnbgbaaPOpen
namespace Go.Proofs.Ytdppelkfcnbgbaa.accsRooms
open Go.ChangeShapes Go.WideShapes Go.ChangeAt Go.RowKit
open Ac
open Go.ChangeMaps (open_string)
set_option linter.unusedVariables false
set_option linter.unusedSimpArgs false
set_option maxRecDepth 100000

theorem own : ownKnob Try.prog.godebug = none := by kernel_rfl

/-! ### the walk: the law returns true -/
set_option maxHeartbeats 16000000 in
theorem walk (w : World) (x0 : Pl.Pn) (m0 : Value) (h0 : Pl.RusAt All w m0 x0.rules) (z0 : Pl.PnOk x0) (v1 : Value) (l1 : List Row) (h1 : RwsAt All w v1 l1) (z1 : ∀ x ∈ l1, Ao.I64 x.year) (t2 : Tx) (t3 : Tx) (a4 : Int) (z4 : Ao.I64 a4) :
    Calls Try.prog 6 #[Pl.pnv x0 m0, v1, .string (mk t2), .string (mk t3), .int .i64 a4] w fun e w' => e = .returned (.bool true) ∧ Below w.heap.size w w' := by
  have HW := Lib.hid works_any
  obtain ⟨ra, rcp, rfl, hr1, hr2, hr3⟩ := h0.form
  have hb0 := below_alloc w (.cells #[.int .i64 x0.mode, .int .i64 x0.indDed, .int .i64 x0.famDed, .int .i64 x0.indOop, .int .i64 x0.famOop, .slice ra x0.rules.length rcp] 41)
  have HX := Lib.hid (alloc_new w #[.int .i64 x0.mode, .int .i64 x0.indDed, .int .i64 x0.famDed, .int .i64 x0.indOop, .int .i64 x0.famOop, .slice ra x0.rules.length rcp] 41)
  have HBox := Lib.hid hb0
  have HM := Lib.hid (may_any l1 v1 _ (h1.grw hb0))
  have HRlo : Hid (∀ W, Below w.heap.size w W → RwsAt All W v1 l1) := fun W hW => ((rws_lo h1).move (Below.moves_lo hW)).all
  have HPlo : Hid (∀ W, Below w.heap.size w W → Pl.RusAt All W (.slice ra x0.rules.length rcp) x0.rules) := fun W hW => h0.grw hW
  have HWt : Hid (∀ W, Pl.RusAt All W (.slice ra x0.rules.length rcp) x0.rules → Calls Try.prog 22 #[.agg #[.int .i64 x0.mode, .int .i64 x0.indDed, .int .i64 x0.famDed, .int .i64 x0.indOop, .int .i64 x0.famOop, .slice ra x0.rules.length rcp], .int .i64 300] W fun e w' => (∃ n : Int, e = .returned (.int .i64 n)) ∧ Below W.heap.size W w') := fun W hW => (Pl.weight_any x0 _ W hW).mono fun e w' h => ⟨by obtain ⟨⟨n, hn, _⟩, _⟩ := h; exact ⟨n, hn⟩, h.2⟩
  have HPc : Hid (∀ W, Pl.RusAt All W (.slice ra x0.rules.length rcp) x0.rules → Calls Try.prog 23 #[.agg #[.int .i64 x0.mode, .int .i64 x0.indDed, .int .i64 x0.famDed, .int .i64 x0.indOop, .int .i64 x0.famOop, .slice ra x0.rules.length rcp]] W fun e w' => e = .returned (.int .i64 (Pl.checkE x0)) ∧ Below W.heap.size W w') := fun W hW => Pl.rcheck_any x0 _ W hW
  clear hb0 h0
  cases hm : mayB l1 with
  | false =>
    rw [hm] at HM
    obtain ⟨fa, fk, rfl, hm1, hm2⟩ := h1.form
    clear h1 hm
    go_enter Try.func6, Try.ntmps6
    go_upto_region 1 with fail
    generalize w.alloc (.cells #[.int .i64 x0.mode, .int .i64 x0.indDed, .int .i64 x0.famDed, .int .i64 x0.indOop, .int .i64 x0.famOop, .slice ra x0.rules.length rcp] 41) = w0 at *
    generalize hp : w.heap.size = p at *
    have HB0 := Lib.hid HBox.out
    clear HBox
    go_wp2_with fail
    try (go_at_call 13)
    refine (HM.out).mono ?_
    rintro e w1 ⟨rfl, hb1⟩
    have HB1 := Lib.hid (below_tr hp HB0.out hb1)
    have HX1 := Lib.hid (keepB HX.out hb1)
    clear hb1 HB0 HM HX
    go_wp2_with fail
    try (go_at_call 10)
    refine (HW.out w1).mono ?_
    rintro e w2 ⟨rfl, hb2⟩
    have HB2 := Lib.hid (below_tr hp HB1.out hb2)
    clear hb2 HB1 
    go_wp2
    go_ret
    exact ⟨rfl, by first | exact HB2.out | (rw [hp]; exact HB2.out)⟩
  | true =>
    obtain ⟨⟨h3, -⟩, hO⟩ := (may_iff l1).1 hm
    by_cases c1 : (60 : Int) < ((mk t2).size : Int)
    · rw [hm] at HM
      obtain ⟨fa, fk, rfl, hm1, hm2⟩ := h1.form
      clear h1 hm
      go_enter Try.func6, Try.ntmps6
      go_upto_region 1 with fail
      generalize w.alloc (.cells #[.int .i64 x0.mode, .int .i64 x0.indDed, .int .i64 x0.famDed, .int .i64 x0.indOop, .int .i64 x0.famOop, .slice ra x0.rules.length rcp] 41) = w0 at *
      generalize hp : w.heap.size = p at *
      have HB0 := Lib.hid HBox.out
      clear HBox
      go_wp2_with fail
      try (go_at_call 13)
      refine (HM.out).mono ?_
      rintro e w1 ⟨rfl, hb1⟩
      have HB1 := Lib.hid (below_tr hp HB0.out hb1)
      have HX1 := Lib.hid (keepB HX.out hb1)
      clear hb1 HB0 HM HX
      obtain ⟨q0, q1, q2, q3, q4, q5⟩ := six HX1.out
      go_wp2_with fail
      try (go_at_call 10)
      refine (HW.out w1).mono ?_
      rintro e w2 ⟨rfl, hb2⟩
      have HB2 := Lib.hid (below_tr hp HB1.out hb2)
      clear hb2 HB1 
      go_wp2
      go_ret
      exact ⟨rfl, by first | exact HB2.out | (rw [hp]; exact HB2.out)⟩
    · by_cases c2 : (60 : Int) < ((mk t3).size : Int)
      · rw [hm] at HM
        obtain ⟨fa, fk, rfl, hm1, hm2⟩ := h1.form
        clear h1 hm
        go_enter Try.func6, Try.ntmps6
        go_upto_region 1 with fail
        generalize w.alloc (.cells #[.int .i64 x0.mode, .int .i64 x0.indDed, .int .i64 x0.famDed, .int .i64 x0.indOop, .int .i64 x0.famOop, .slice ra x0.rules.length rcp] 41) = w0 at *
        generalize hp : w.heap.size = p at *
        have HB0 := Lib.hid HBox.out
        clear HBox
        go_wp2_with fail
        try (go_at_call 13)
        refine (HM.out).mono ?_
        rintro e w1 ⟨rfl, hb1⟩
        have HB1 := Lib.hid (below_tr hp HB0.out hb1)
        have HX1 := Lib.hid (keepB HX.out hb1)
        clear hb1 HB0 HM HX
        obtain ⟨q0, q1, q2, q3, q4, q5⟩ := six HX1.out
        go_wp2_with fail
        try (go_at_call 10)
        refine (HW.out w1).mono ?_
        rintro e w2 ⟨rfl, hb2⟩
        have HB2 := Lib.hid (below_tr hp HB1.out hb2)
        clear hb2 HB1 
        go_wp2
        go_ret
        exact ⟨rfl, by first | exact HB2.out | (rw [hp]; exact HB2.out)⟩
      · have HRo : Hid (Pl.checkE x0 = 0 → ∀ W, RwsAt All W v1 l1 → Calls Try.prog 24 #[.agg #[.int .i64 x0.mode, .int .i64 x0.indDed, .int .i64 x0.famDed, .int .i64 x0.indOop, .int .i64 x0.famOop, .slice ra x0.rules.length rcp], v1, .string (mk t2), .string (mk t3), .int .i64 a4] W fun e w' => e = .returned (.tuple #[.int .i64 (roomV x0.mode x0.indDed x0.famDed (getV l1 t2 false a4).de (getV l1 t3 true a4).de), .int .i64 (roomV x0.mode x0.indOop x0.famOop (getV l1 t2 false a4).oo (getV l1 t3 true a4).oo)]) ∧ Below W.heap.size W w') := fun h W hW => by
          obtain ⟨i1, i2, i3, i4⟩ := plan_in h
          exact room_any _ _ _ _ _ ra _ rcp l1 t2 t3 a4 v1 W hW (by omega) hO i1 i2 i3 i4
        have HRr : Hid (Pl.checkE x0 = 0 → ∀ W, RwsAt All W v1 l1 → Calls Try.prog 25 #[.agg #[.int .i64 x0.mode, .int .i64 x0.indDed, .int .i64 x0.famDed, .int .i64 x0.indOop, .int .i64 x0.famOop, .slice ra x0.rules.length rcp], v1, .string (mk t2), .string (mk t3), .int .i64 a4] W fun e w' => e = .returned (.tuple #[.int .i64 (roomV x0.mode x0.indDed x0.famDed (getV l1 t2 false a4).de (getV l1 t3 true a4).de), .int .i64 (roomV x0.mode x0.indOop x0.famOop (getV l1 t2 false a4).oo (getV l1 t3 true a4).oo)]) ∧ Below W.heap.size W w') := fun h W hW => by
          obtain ⟨i1, i2, i3, i4⟩ := plan_in h
          exact rroom_any _ _ _ _ _ ra _ rcp l1 t2 t3 a4 v1 W hW (by omega) hO i1 i2 i3 i4
        have HIn : Hid (Pl.checkE x0 = 0 → (0 ≤ roomV x0.mode x0.indDed x0.famDed (getV l1 t2 false a4).de (getV l1 t3 true a4).de ∧ roomV x0.mode x0.indDed x0.famDed (getV l1 t2 false a4).de (getV l1 t3 true a4).de ≤ x0.famDed) ∧ (0 ≤ roomV x0.mode x0.indOop x0.famOop (getV l1 t2 false a4).oo (getV l1 t3 true a4).oo ∧ roomV x0.mode x0.indOop x0.famOop (getV l1 t2 false a4).oo (getV l1 t3 true a4).oo ≤ x0.famOop)) := fun h => by
          obtain ⟨i1, i2, i3, i4⟩ := plan_in h
          have g1 := get_in_amt hO t2 false a4
          have g2 := get_in_amt hO t3 true a4
          have r1 := room_in x0.mode x0.indDed x0.famDed (getV l1 t2 false a4).de (getV l1 t3 true a4).de i1.1 i2.1 g1.1.1 g2.1.1
          have r2 := room_in x0.mode x0.indOop x0.famOop (getV l1 t2 false a4).oo (getV l1 t3 true a4).oo i3.1 i4.1 g1.2.1 g2.2.1
          exact ⟨⟨r1.1, r1.2.1⟩, r2.1, r2.2.1⟩
        clear hO
        generalize roomV x0.mode x0.indDed x0.famDed (getV l1 t2 false a4).de (getV l1 t3 true a4).de = V1 at *
        generalize roomV x0.mode x0.indOop x0.famOop (getV l1 t2 false a4).oo (getV l1 t3 true a4).oo = V2 at *
        generalize Pl.checkE x0 = C at *
        rw [hm] at HM
        obtain ⟨fa, fk, rfl, hm1, hm2⟩ := h1.form
        clear h1 hm
        go_enter Try.func6, Try.ntmps6
        go_upto_region 1 with fail
        generalize w.alloc (.cells #[.int .i64 x0.mode, .int .i64 x0.indDed, .int .i64 x0.famDed, .int .i64 x0.indOop, .int .i64 x0.famOop, .slice ra x0.rules.length rcp] 41) = w0 at *
        generalize hp : w.heap.size = p at *
        have HB0 := Lib.hid HBox.out
        clear HBox
        go_wp2_with fail
        try (go_at_call 13)
        refine (HM.out).mono ?_
        rintro e w1 ⟨rfl, hb1⟩
        have HB1 := Lib.hid (below_tr hp HB0.out hb1)
        have HX1 := Lib.hid (keepB HX.out hb1)
        clear hb1 HB0 HM HX
        obtain ⟨q0, q1, q2, q3, q4, q5⟩ := six HX1.out
        go_wp2_with fail
        try (go_at_call 22)
        refine (HWt.out w1 (HPlo.out w1 HB1.out)).mono ?_
        rintro e w2 ⟨⟨n, rfl⟩, hb2⟩
        have HB2 := Lib.hid (below_tr hp HB1.out hb2)
        have HX2 := Lib.hid (keepB HX1.out hb2)
        clear hb2 HB1 HWt HX1 q0 q1 q2 q3 q4 q5
        obtain ⟨q0, q1, q2, q3, q4, q5⟩ := six HX2.out
        by_cases cn : (300 : Int) < n
        · go_wp2_with fail
          try (go_at_call 10)
          refine (HW.out w2).mono ?_
          rintro e w3 ⟨rfl, hb3⟩
          have HB3 := Lib.hid (below_tr hp HB2.out hb3)
          clear hb3 HB2 
          go_wp2
          go_ret
          exact ⟨rfl, by first | exact HB3.out | (rw [hp]; exact HB3.out)⟩
        · go_wp2_with fail
          try (go_at_call 23)
          refine (HPc.out w2 (HPlo.out w2 HB2.out)).mono ?_
          rintro e w3 ⟨rfl, hb3⟩
          have HB3 := Lib.hid (below_tr hp HB2.out hb3)
          have HX3 := Lib.hid (keepB HX2.out hb3)
          clear hb3 HB2 HPc HX2 q0 q1 q2 q3 q4 q5
          obtain ⟨q0, q1, q2, q3, q4, q5⟩ := six HX3.out
          by_cases cc : C = 0
          · have nc : (C != 0) = false := by simp [cc]
            obtain ⟨⟨j1, j2⟩, j3, j4⟩ := HIn.out cc
            have HA := Lib.hid (HRo.out cc)
            have HD := Lib.hid (HRr.out cc)
            clear HRo HRr HIn cc
            go_wp2_with fail
            try (go_at_call 24)
            refine (HA.out w3 (HRlo.out w3 HB3.out)).mono ?_
            rintro e w4 ⟨rfl, hb4⟩
            have HB4 := Lib.hid (below_tr hp HB3.out hb4)
            have HX4 := Lib.hid (keepB HX3.out hb4)
            clear hb4 HB3 HA HX3 q0 q1 q2 q3 q4 q5
            obtain ⟨q0, q1, q2, q3, q4, q5⟩ := six HX4.out
            go_wp2_with fail
            try (go_at_call 25)
            refine (HD.out w4 (HRlo.out w4 HB4.out)).mono ?_
            rintro e w5 ⟨rfl, hb5⟩
            have HB5 := Lib.hid (below_tr hp HB4.out hb5)
            have HX5 := Lib.hid (keepB HX4.out hb5)
            clear hb5 HB4 HD HX4 q0 q1 q2 q3 q4 q5
            obtain ⟨q0, q1, q2, q3, q4, q5⟩ := six HX5.out
            go_wp2_with fail
            try (go_at_call 10)
            refine (HW.out w5).mono ?_
            rintro e w6 ⟨rfl, hb6⟩
            have HB6 := Lib.hid (below_tr hp HB5.out hb6)
            clear hb6 HB5 
            go_wp2
            go_ret
            exact ⟨rfl, by first | exact HB6.out | (rw [hp]; exact HB6.out)⟩
          · have nc : (C != 0) = true := by simp [cc]
            clear HRo HRr HIn cc
            go_wp2_with fail
            try (go_at_call 10)
            refine (HW.out w3).mono ?_
            rintro e w4 ⟨rfl, hb4⟩
            have HB4 := Lib.hid (below_tr hp HB3.out hb4)
            clear hb4 HB3 
            go_wp2
            go_ret
            exact ⟨rfl, by first | exact HB4.out | (rw [hp]; exact HB4.out)⟩

/-! ### the row's step -/
theorem laidOut : laidOutB Try.prog = true := by kernel_rfl
theorem lifted (os : Os) (started : os.Started) (H : Type) (enc : TypeId × Value → H) :
    ReturnsInHanded {} Try.checked os 6 .any (Rows.accsRoomsSpec.pre6 enc Try.prog Try.f6 Rows.accsRoomsRow.domain false) (Rows.accsRoomsSpec.post enc Try.prog Try.f6 false true false false) := by
  refine returnsInHanded_of_change_shaped (C := Try.checked) own started (by kernel_rfl) Try.func6
    (ChangeSpec.witness6 (enc := enc) (C := Try.checked) false ⟨#[], #[.agg #[.int .i64 0, .int .i64 0, .int .i64 0, .int .i64 0, .int .i64 0, .slice none 0 0], .slice none 0 0, .string ByteArray.empty, .string ByteArray.empty, .int .i64 0], []⟩ 8 (by kernel_rfl) (by kernel_rfl) (by kernel_rfl) (by kernel_rfl)) ?_
  intro W base args ds gs before hval0 hW hcnd hwt _ _
  have hval : ∀ (j : Nat) t v, Try.f6.params[j]? = some t → args[j]? = some v → Value.okWide Try.prog W .any base t v := hval0
  have hW' := hW
  obtain ⟨p, q, hA0, hV, rfl, hfz, hnd⟩ := hW
  have hA : DataW.TrodAll enc Try.prog W 0 (fun _ => true) true Try.f6.params.toList args.toList ds p := hA0
  rw [Try.params6] at hA hval hwt
  obtain ⟨v0, vs0, d0, ds0, p0, q0, hargs, rfl, rfl, h0, r0⟩ := trodAll_cons hA
  obtain ⟨v1, vs1, d1, ds1, p1, q1, rfl, rfl, rfl, h1, r1⟩ := trodAll_cons r0
  obtain ⟨v2, vs2, d2, ds2, p2, q2, rfl, rfl, rfl, h2, r2⟩ := trodAll_cons r1
  obtain ⟨v3, vs3, d3, ds3, p3, q3, rfl, rfl, rfl, h3, r3⟩ := trodAll_cons r2
  obtain ⟨v4, vs4, d4, ds4, p4, q4, rfl, rfl, rfl, h4, r4⟩ := trodAll_cons r3
  obtain ⟨rfl, rfl, rfl⟩ := trodAll_nil r4
  obtain rfl : args = #[v0, v1, v2, v3, v4] := by cases args; simp_all
  obtain ⟨rfl, rfl⟩ := trodVars_none hV
  have hwl : ∀ z, (z ∈ d0.weights Try.prog 41 → z ≤ reachBytes) ∧ (z ∈ d1.weights Try.prog 22 → z ≤ reachBytes) ∧ (z ∈ d2.weights Try.prog 9 → z ≤ reachBytes) ∧ (z ∈ d3.weights Try.prog 9 → z ≤ reachBytes) ∧ (z ∈ d4.weights Try.prog 3 → z ≤ reachBytes) := fun z => by
    have h := List.all_eq_true.1 hwt z
    simp only [decide_eq_true_eq] at h
    refine ⟨fun hz => h ?_, fun hz => h ?_, fun hz => h ?_, fun hz => h ?_, fun hz => h ?_⟩
    all_goals
      simp only [List.cons_append, List.nil_append, List.toList_toArray, List.append_nil, DataW.weightsEach, List.mem_append]
      first | exact Or.inl hz | exact Or.inr (Or.inl hz) | exact Or.inr (Or.inr (Or.inl hz)) | exact Or.inr (Or.inr (Or.inr (Or.inl hz))) | exact Or.inr (Or.inr (Or.inr (Or.inr (Or.inl hz)))) | exact Or.inr (Or.inr (Or.inr (Or.inr (Or.inr (Or.inl hz))))) | exact Or.inr (Or.inr (Or.inr (Or.inr (Or.inr (Or.inr (Or.inl hz)))))) | simp [hz]
  have k0 := h0
  have lt0 : ∀ x ∈ p0, x.block < W.heap.size := by obtain ⟨m, hm⟩ := k0; exact DataW.trod_lt m _ _ _ hm
  obtain ⟨x0, m0, rfl, g0, z0⟩ := Pl.open_plan (hval 0 41 v0 rfl rfl) h0 (fun z hz => (hwl z).1 hz)
  have k1 := h1
  have lt1 : ∀ x ∈ p1, x.block < W.heap.size := by obtain ⟨m, hm⟩ := k1; exact DataW.trod_lt m _ _ _ hm
  obtain ⟨l1, g1, z1⟩ := Ao.open_rows (okWide_slice Try.underlying22 (hval 1 22 v1 rfl rfl)) h1
  have k2 := h2
  have lt2 : ∀ x ∈ p2, x.block < W.heap.size := by obtain ⟨m, hm⟩ := k2; exact DataW.trod_lt m _ _ _ hm
  obtain ⟨a2, rfl, _, _, w2⟩ := open_string Try.underlying9 (hval 2 9 v2 rfl rfl) h2
  obtain ⟨t2, rfl⟩ : ∃ t : Tx, a2 = mk t := ⟨a2.data.toList, (mk_of _).symm⟩
  have k3 := h3
  have lt3 : ∀ x ∈ p3, x.block < W.heap.size := by obtain ⟨m, hm⟩ := k3; exact DataW.trod_lt m _ _ _ hm
  obtain ⟨a3, rfl, _, _, w3⟩ := open_string Try.underlying9 (hval 3 9 v3 rfl rfl) h3
  obtain ⟨t3, rfl⟩ : ∃ t : Tx, a3 = mk t := ⟨a3.data.toList, (mk_of _).symm⟩
  have k4 := h4
  have lt4 : ∀ x ∈ p4, x.block < W.heap.size := by obtain ⟨m, hm⟩ := k4; exact DataW.trod_lt m _ _ _ hm
  obtain ⟨a4, rfl, _, _, w4⟩ := open_int Try.underlying3 (hval 4 3 v4 rfl rfl) h4
  clear hA0 hval0
  refine (walk W x0 m0 g0 z0 v1 l1 g1 z1 t2 t3 a4 (Ao.i64_of w4)).mono fun e W' ⟨he, bel⟩ => ?_
  subst he
  exact ⟨_, rfl, _, _, _, [], _, [], hW', (trodAll_cons_mk (shut_bool Try.underlying4 _) trodAll_mk0), (trodAll_cons_mk (Below.trod laidOut (by kernel_rfl) (of_decide_eq_true (by kernel_rfl)) k0 bel lt0) (trodAll_cons_mk (Below.trod laidOut (by kernel_rfl) (of_decide_eq_true (by kernel_rfl)) k1 bel lt1) (trodAll_cons_mk (Below.trod laidOut (by kernel_rfl) (of_decide_eq_true (by kernel_rfl)) k2 bel lt2) (trodAll_cons_mk (Below.trod laidOut (by kernel_rfl) (of_decide_eq_true (by kernel_rfl)) k3 bel lt3) (trodAll_cons_mk (Below.trod laidOut (by kernel_rfl) (of_decide_eq_true (by kernel_rfl)) k4 bel lt4) trodAll_mk0))))), rfl, bel.frame _, fun h => by cases h⟩

theorem over : Rows.accsRoomsRow.holds Try.pinned (OpenSpec.ofChange Rows.accsRoomsSpec) :=
  OpenClaim.holds_of_wide 6 Try.f6 rfl rfl rfl rfl rfl rfl rfl ⟨rfl, rfl, rfl, rfl, rfl⟩ rfl rfl rfl rfl rfl (by kernel_rfl) Try.func6 (by kernel_rfl)
    (of_decide_eq_true (by kernel_rfl)) (by unfold Func.isWrapper; first | (rw [if_pos (by decide +kernel)]; kernel_rfl) | (rw [if_neg (by decide +kernel)]; exact ⟨rfl, rfl⟩))
    (fun os started H enc _ => lifted os started H enc)

/-- The statement. -/
theorem proved : Rows.AccsRoomsSaid := over
end Go.Proofs.Ytdppelkfcnbgbaa.accsRooms
namespace Go.Proofs.Ytdppelkfcnbgbaa
theorem accsRooms_holds : Rows.AccsRoomsSaid := accsRooms.proved
#print axioms accsRooms_holds
end Go.Proofs.Ytdppelkfcnbgbaa
