/-
  EditsJoin holds for every two tables, for all services and every number: of two tables, one behind the other, the first one that denies says why.
-/
import Derived.Test.YtgloihilnbjmeaaDoorRows
import Derived.WalkKit
import Derived.ProofKit
import Derived.OpenShut
import Derived.ShutString
import Derived.Below
import Derived.Carry
import Derived.LaidMore
import Derived.Stop.Joined
import Derived.SevenTiedAt
import Derived.Deep.DeepCutAuto
import Derived.Test.YtgloihilnbjmeaaDoorXTools
import Derived.Test.YtgloihilnbjmeaaDoorXOpen
import Derived.Test.YtgloihilnbjmeaaDoorTie
import Derived.Test.YtgloihilnbjmeaaDoorCards
namespace Go.Proofs.YtgloihilnbjmeaaDoor.editsJoin
open Go.ChangeShapes Go.WideShapes Go.ChangeAt Go.RowKit
open Xo
open Ex
open Cm (Ln LnsAt lnv LnOk)
open Wo (Wd WdsAt box_cell box_two keepB heap_far below_alloc below_trans)
open Go.ChangeMaps (open_string)
set_option linter.unusedVariables false
set_option linter.unusedSimpArgs false


theorem own : ownKnob Tryd.prog.godebug = none := by kernel_rfl

/-! ### the walk: the law returns true -/
set_option maxHeartbeats 8000000 in
theorem walk (w : World) (v0 : Value) (l0 : List Ed) (h0 : EdsAt All w v0 l0) (n0 : l0.length ≤ 281474976710656) (z0 : ∀ f ∈ l0, EdOk f) (v1 : Value) (l1 : List Ed) (h1 : EdsAt All w v1 l1) (n1 : l1.length ≤ 281474976710656) (z1 : ∀ f ∈ l1, EdOk f) (v2 : Value) (l2 : List Ln) (h2 : LnsAt All w v2 l2) (n2 : l2.length ≤ 281474976710656) (z2 : ∀ f ∈ l2, LnOk f) (a3 : Int) (w3 : (Lit.int .i64 a3).wf = true) (hT : Nu.Tab w) :
    Calls Tryd.prog 8 #[v0, v1, v2, .int .i64 a3] w fun e w' => e = .returned (.bool true) ∧ Below w.heap.size w w' := by
  have HWk : Hid (∀ W, Below w.heap.size w W → Calls Tryd.prog 10 #[] W fun e w' => e = .returned (.bool true) ∧ Below W.heap.size W w') := fun W hW => works_any W (Nu.tab_grw hT hW)
  have HB0 := Lib.hid (Below.refl w.heap.size w)
  have HLt := Lib.hid (light_any l0 v0 l2 v2 w h0 h2 z0 n0 n2 z2)
  have HLu : Hid (∀ W, Below w.heap.size w W → Calls Tryd.prog 9 #[v1, .slice none 0 0] W fun e w' => LtV l1 e ∧ Below W.heap.size W w') := fun W hW => (light_any l1 v1 [] (.slice none 0 0) W (h1.grw hW) (lns_none _) z1 n1 (by simp) (by simp))
  have HD1 := Lib.hid fun W (hW : Below w.heap.size w W) => deny_any l0 v0 l2 v2 a3 W (h0.grw hW) (lns_grw h2 hW) n0 n2
  have HD2 := Lib.hid fun W (hW : Below w.heap.size w W) => deny_any l1 v1 l2 v2 a3 W (h1.grw hW) (lns_grw h2 hW) n1 n2
  have HD3 : Hid (∀ (W : World) (v : Value), Below w.heap.size w W → EdsAt All W v (l0 ++ l1) → (l0 ++ l1).length ≤ 281474976710656 → Calls Tryd.prog 18 #[v, v2, .int .i64 a3] W fun e w' => e = .returned (.int .i64 (denyV (l0 ++ l1) l2 a3)) ∧ Below W.heap.size W w') := fun W v hW hv hl => deny_any (l0 ++ l1) v l2 v2 a3 W hv (lns_grw h2 hW) hl n2
  rw [denyV_app] at HD3
  generalize denyV l0 l2 a3 = R0 at *
  generalize denyV l1 l2 a3 = R1 at *
  have HT0 := Lib.hid h0
  have HT1 := Lib.hid h1
  obtain ⟨fa, fk, rfl, -, -⟩ := h0.form
  obtain ⟨ga, gk, rfl, -, -⟩ := h1.form
  obtain ⟨la, lk, rfl, -, -⟩ := Cm.LnsAt.form h2
  clear h0 h1 h2 z0 z1 z2 hT
  go_enter Tryd.func8, Tryd.ntmps8
  go_wp2_with fail
  go_at_call 9
  refine HLt.out.mono ?_
  rintro e w1 ⟨⟨bl, rfl, hbl⟩, hb1⟩
  have HB1 := Lib.hid hb1
  clear hb1 HLt
  cases bl with
  | false =>
    clear hbl HD1 HD2 HD3
    go_wp2_with (go_at_call 10; refine (HWk.out _ HB1.out).mono ?_; rintro e w9 ⟨rfl, hb9⟩; have HB9 := Lib.hid (below_trans HB1.out hb9); clear hb9)
    go_ret
    exact ⟨rfl, HB9.out⟩
  | true =>
  have hl0 := hbl rfl
  clear hbl
  go_wp2_with fail
  go_at_call 9
  refine (HLu.out _ HB1.out).mono ?_
  rintro e w2 ⟨⟨bl, rfl, hbl⟩, hb2⟩
  have HB2 := Lib.hid (below_trans HB1.out hb2)
  clear hb2 HLu
  cases bl with
  | false =>
    clear hbl HD1 HD2 HD3
    go_wp2_with (go_at_call 10; refine (HWk.out _ HB2.out).mono ?_; rintro e w9 ⟨rfl, hb9⟩; have HB9 := Lib.hid (below_trans HB2.out hb9); clear hb9)
    go_ret
    exact ⟨rfl, HB9.out⟩
  | true =>
  have hl1 := hbl rfl
  clear hbl
  have HS2 : Hid (w.heap.size ≤ w2.heap.size) := HB2.out.size
  have HC0 := Lib.hid (eds_cells (HT0.out.grw HB2.out))
  have hbd0 : ([] : List Ed).length + l0.length ≤ 1000 := by simp; omega
  have HO0 : Hid (w2.ownsRow w.heap.size 49 5 (.slice none 0 0) ([] : List Ed).length (ecs [])) := World.ownsRow_nil _ _ _ _
  go_wp2_with (at_builtin; refine wpList_plain (by rfl) (fun K hK => ?_); refine wp_appM _ _ (by rfl) w.heap.size (.slice none 0 0) [] (by rfl) HO0.out fa l0.length fk l0 (by rfl) rfl HC0.out (ecs_one l0) hbd0 HS2.out ?_)
  intro vn w3 hown hgr hat
  have HB3 := Lib.hid (HB2.out.trans (grow_low HO0.out hgr HS2.out))
  have HO3 : Hid (w3.ownsRow w.heap.size 49 5 vn l0.length (ecs l0)) := by first | exact hown | (have := hown; simp only [List.nil_append] at this; exact this)
  have HS3 : Hid (w.heap.size ≤ w3.heap.size) := HB3.out.size
  refine hK _ _ ?_
  clear hK hown hgr hat HO0 HC0 HS2
  obtain ⟨na, nk, rfl⟩ := own_form HO3.out
  have HC1 := Lib.hid (eds_cells (HT1.out.grw HB3.out))
  have hbd1 : l0.length + l1.length ≤ 1000 := by omega
  go_wp2_with (at_builtin; refine wpList_plain (by rfl) (fun K hK => ?_); refine wp_appM _ _ (by rfl) w.heap.size (.slice na l0.length nk) l0 (by rfl) HO3.out ga l1.length gk l1 (by rfl) rfl HC1.out (ecs_one l1) hbd1 HS3.out ?_)
  intro vm w4 hown hgr hat
  have HB4 := Lib.hid (HB3.out.trans (grow_low HO3.out hgr HS3.out))
  have HE4 : Hid (EdsAt All w4 vm (l0 ++ l1)) := by first | exact eds_of_own hown (fun _ _ => trivial) | exact eds_of_own (base := w.heap.size) (by rw [List.length_append]; exact hown) (fun _ _ => trivial)
  have hll : (l0 ++ l1).length ≤ 281474976710656 := by rw [List.length_append]; omega
  refine hK _ _ ?_
  clear hK hown hgr hat HO3 HC1 HS3 hbd0 hbd1
  obtain ⟨ma, mk', rfl, -, -⟩ := EdsAt.form HE4.out
  have HD4 : Hid (∀ (W : World), Below w4.heap.size w4 W → Calls Tryd.prog 18 #[.slice ma (l0 ++ l1).length mk', .slice la l2.length lk, .int .i64 a3] W fun e w' => e = .returned (.int .i64 (if R0 = 0 then R1 else R0)) ∧ Below W.heap.size W w') := fun W hW => HD3.out W _ (below_trans HB4.out hW) (HE4.out.grw hW) hll
  clear HD3 hll HE4
  generalize (l0 ++ l1).length = N at *
  go_wp2_with fail
  go_at_call 18
  refine (HD1.out _ HB4.out).mono ?_
  rintro e w5 ⟨rfl, hb5⟩
  have HB5 := Lib.hid (below_trans HB4.out hb5)
  have HW5 := Lib.hid hb5
  clear hb5
  go_wp2_with fail
  go_at_call 18
  refine (HD2.out _ HB5.out).mono ?_
  rintro e w6 ⟨rfl, hb6⟩
  have HB6 := Lib.hid (below_trans HB5.out hb6)
  have HW6 := Lib.hid (below_trans HW5.out hb6)
  clear hb6
  by_cases hr : R0 = 0
  · have q1 : (R0 != 0) = false := by rw [hr]; rfl
    have HD5 : Hid (Calls Tryd.prog 18 #[.slice ma N mk', .slice la l2.length lk, .int .i64 a3] w6 fun e w' => e = .returned (.int .i64 R1) ∧ Below w6.heap.size w6 w') := by have := HD4.out w6 HW6.out; rw [if_pos hr] at this; exact this
    clear HD4 hr HD1 HD2
    go_wp2_with fail
    go_at_call 18
    refine (HD5.out).mono ?_
    rintro e w7 ⟨rfl, hb7⟩
    have HB7 := Lib.hid (below_trans HB6.out hb7)
    clear hb7
    go_wp2_with (go_at_call 10; refine (HWk.out _ HB7.out).mono ?_; rintro e w9 ⟨rfl, hb9⟩; have HB9 := Lib.hid (below_trans HB7.out hb9); clear hb9)
    go_ret
    exact ⟨rfl, HB9.out⟩
  · have q1 : (R0 != 0) = true := by simpa using hr
    have HD5 : Hid (Calls Tryd.prog 18 #[.slice ma N mk', .slice la l2.length lk, .int .i64 a3] w6 fun e w' => e = .returned (.int .i64 R0) ∧ Below w6.heap.size w6 w') := by have := HD4.out w6 HW6.out; rw [if_neg hr] at this; exact this
    clear HD4 hr HD1 HD2
    go_wp2_with fail
    go_at_call 18
    refine (HD5.out).mono ?_
    rintro e w7 ⟨rfl, hb7⟩
    have HB7 := Lib.hid (below_trans HB6.out hb7)
    clear hb7
    go_wp2_with (go_at_call 10; refine (HWk.out _ HB7.out).mono ?_; rintro e w9 ⟨rfl, hb9⟩; have HB9 := Lib.hid (below_trans HB7.out hb9); clear hb9)
    go_ret
    exact ⟨rfl, HB9.out⟩

/-! ### the row's step -/
theorem laidOut : laidOutB Tryd.prog = true := by kernel_rfl
set_option maxRecDepth 100000 in
theorem lifted (os : Os) (started : os.Started) (H : Type) (enc : TypeId × Value → H) :
    ReturnsInHanded {} Tryd.checked os 8 .any (fun w args => (Rows.editsJoinSpec.pre enc Tryd.prog Tryd.f8 [] false w args ∧ laidMetH Tryd.prog laidL w) ∧ sizedMet enc Tryd.prog Tryd.f8 (OpenSpec.ofChange Rows.editsJoinSpec) false w args) (Rows.editsJoinSpec.post enc Tryd.prog Tryd.f8 false true false false) := by
  refine lift own started (by kernel_rfl) Tryd.func8
    (ChangeSpec.witness_shaped (enc := enc) (C := Tryd.checked) (os := os) (X := fun w _ => laidMetH Tryd.prog laidL w) false (World.laidAll Tryd.prog os laidL) #[.slice none 0 0, .slice none 0 0, .slice none 0 0, .int .i64 0] 8 (World.laidAll_os _ _ _)
      (World.shaped_of_ZipB (by kernel_rfl) (by kernel_rfl)) (by kernel_rfl) (by kernel_rfl) (by kernel_rfl)
      (by rw [MakeChecks.laidMetH_plain _ _ _ (by kernel_rfl)]; exact laidMet_laidAll _ (by kernel_rfl) (by kernel_rfl))) ?_
  intro W base args ds gs before hval0 hW hwt hT
  have hval : ∀ (j : Nat) t v, Tryd.f8.params[j]? = some t → args[j]? = some v → Value.okWide Tryd.prog W .any base t v := hval0
  have hW' := hW
  obtain ⟨p, q, hA0, hV, rfl, hfz, hnd⟩ := hW
  have hA : DataW.TrodAll enc Tryd.prog W 0 (fun _ => true) true Tryd.f8.params.toList args.toList ds p := hA0
  rw [Tryd.params8] at hA hval hwt
  obtain ⟨v0, vs0, d0, ds0, p0, q0, hargs, rfl, rfl, h0, r0⟩ := trodAll_cons hA
  obtain ⟨v1, vs1, d1, ds1, p1, q1, rfl, rfl, rfl, h1, r1⟩ := trodAll_cons r0
  obtain ⟨v2, vs2, d2, ds2, p2, q2, rfl, rfl, rfl, h2, r2⟩ := trodAll_cons r1
  obtain ⟨v3, vs3, d3, ds3, p3, q3, rfl, rfl, rfl, h3, r3⟩ := trodAll_cons r2
  obtain ⟨rfl, rfl, rfl⟩ := trodAll_nil r3
  obtain rfl : args = #[v0, v1, v2, v3] := by cases args; simp_all
  obtain ⟨rfl, rfl⟩ := trodVars_none hV
  have hwl : ∀ z, (z ∈ d0.weights Tryd.prog 22 → z ≤ reachBytes) ∧ (z ∈ d1.weights Tryd.prog 22 → z ≤ reachBytes) ∧ (z ∈ d2.weights Tryd.prog 37 → z ≤ reachBytes) ∧ (z ∈ d3.weights Tryd.prog 3 → z ≤ reachBytes) := fun z => by
    have h := List.all_eq_true.1 hwt z
    simp only [decide_eq_true_eq] at h
    refine ⟨fun hz => h ?_, fun hz => h ?_, fun hz => h ?_, fun hz => h ?_⟩
    all_goals
      simp only [List.cons_append, List.nil_append, List.toList_toArray, List.append_nil, DataW.weightsEach, List.mem_append]
      simp [hz]
  have k0 := h0
  have lt0 : ∀ x ∈ p0, x.block < W.heap.size := by obtain ⟨m, hm⟩ := k0; exact DataW.trod_lt m _ _ _ hm
  obtain ⟨l0, g0, n0, z0⟩ := open_edits (okWide_slice Tryd.underlying22 (hval 0 22 v0 rfl rfl)) h0 (fun z hz => (hwl z).1 hz)
  have k1 := h1
  have lt1 : ∀ x ∈ p1, x.block < W.heap.size := by obtain ⟨m, hm⟩ := k1; exact DataW.trod_lt m _ _ _ hm
  obtain ⟨l1, g1, n1, z1⟩ := open_edits (okWide_slice Tryd.underlying22 (hval 1 22 v1 rfl rfl)) h1 (fun z hz => (hwl z).2.1 hz)
  have k2 := h2
  have lt2 : ∀ x ∈ p2, x.block < W.heap.size := by obtain ⟨m, hm⟩ := k2; exact DataW.trod_lt m _ _ _ hm
  obtain ⟨l2, g2, n2, z2⟩ := open_lns (okWide_slice Tryd.underlying37 (hval 2 37 v2 rfl rfl)) h2 (fun z hz => (hwl z).2.2.1 hz)
  have k3 := h3
  have lt3 : ∀ x ∈ p3, x.block < W.heap.size := by obtain ⟨m, hm⟩ := k3; exact DataW.trod_lt m _ _ _ hm
  obtain ⟨a3, rfl, _, _, w3⟩ := open_int Tryd.underlying3 (hval 3 3 v3 rfl rfl) h3
  clear hA0 hval0
  refine (walk W v0 l0 g0 n0 z0 v1 l1 g1 n1 z1 v2 l2 g2 n2 z2 a3 w3 hT).mono fun e W' ⟨he, bel⟩ => ?_
  subst he
  exact ⟨_, rfl, _, _, _, [], _, [], hW', (trodAll_cons_mk (shut_bool Tryd.underlying4 _) trodAll_mk0), (trodAll_cons_mk (Below.trod laidOut (by kernel_rfl) (of_decide_eq_true (by kernel_rfl)) k0 bel lt0) (trodAll_cons_mk (Below.trod laidOut (by kernel_rfl) (of_decide_eq_true (by kernel_rfl)) k1 bel lt1) (trodAll_cons_mk (Below.trod laidOut (by kernel_rfl) (of_decide_eq_true (by kernel_rfl)) k2 bel lt2) (trodAll_cons_mk (Below.trod laidOut (by kernel_rfl) (of_decide_eq_true (by kernel_rfl)) k3 bel lt3) trodAll_mk0)))), rfl, bel.frame _, fun h => by cases h⟩

theorem over : Rows.editsJoinRow.holds Tryd.pinned (OpenSpec.ofChange Rows.editsJoinSpec) :=
  OpenClaim.holds_of_wide 8 Tryd.f8 rfl rfl rfl rfl rfl rfl rfl ⟨rfl, rfl, rfl, rfl, rfl⟩ rfl rfl rfl rfl rfl (by kernel_rfl) Tryd.func8 (by kernel_rfl)
    (of_decide_eq_true (by kernel_rfl)) (by unfold Func.isWrapper; first | (rw [if_pos (by decide +kernel)]; kernel_rfl) | (rw [if_neg (by decide +kernel)]; exact ⟨rfl, rfl⟩))
    (fun os started H enc _ => lifted os started H enc)

/-- The row's statement. -/
theorem proved : Rows.EditsJoinSaid := over
end Go.Proofs.YtgloihilnbjmeaaDoor.editsJoin
namespace Go.Proofs.YtgloihilnbjmeaaDoor
theorem editsJoin_holds : Rows.EditsJoinCardSaid :=
  Claim7.holds_tied_plain_at .later [] [.data, .data, .data] true (true, "b44c92bab4fb646ddc684cfa4b24097984c9645ac2fd34c5cae9cfe79b4f134b") false
    editsJoin.proved (fun _ h => by cases h) (by kernel_rfl) (fun _ h => by cases h) editsJoin_row_tie rfl ⟨rfl, rfl⟩ (by kernel_rfl) rfl
    (fun f fn hf hfn => by
      obtain rfl : f = 8 := Option.some.inj ((show Tryd.prog.funcNamed "leechbook/leechbooklaw13.EditsJoin" = some 8 by kernel_rfl).symm.trans hf) |>.symm
      obtain rfl : fn = Tryd.f8 := (Option.some.inj (Tryd.func8.symm.trans hfn)).symm
      exact ⟨by kernel_rfl, fun j t ht => by
        rw [Tryd.params8] at ht
        have hm : t ∈ [22, 22, 37, 3] := by simpa using Array.mem_of_getElem? ht
        have hall : ([22, 22, 37, 3].all fun u => !Tryd.prog.wantsStandIn u) = true := by kernel_rfl
        exact (show Tryd.prog.wantsStandIn t = false by simpa using List.all_eq_true.1 hall t hm)⟩)
    (by kernel_rfl)
#print axioms editsJoin_holds
end Go.Proofs.YtgloihilnbjmeaaDoor
