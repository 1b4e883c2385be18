/-
  FeesBound holds for every table, service and number: a service that may be is never allowed more than it is billed at.
-/
import Derived.WalkKit
import Derived.ProofKit
import Derived.OpenShut
import Derived.ShutString
import Derived.Below
import Derived.Carry
import Derived.LaidMore
import Derived.Stop.Joined
import Derived.SevenTiedAt
import Derived.Deep.DeepCutAuto
import Derived.Test.YtmoldgmfhcmceaaGreatDoorRows
import Derived.Test.YtmoldgmfhcmceaaGreatDoorTie
import Derived.Test.YtmoldgmfhcmceaaGreatDoorCards
import Derived.Test.YtmoldgmfhcmceaaGreatDoorMf1
import Derived.Test.YtmoldgmfhcmceaaGreatDoorMf2
import Derived.Test.YtmoldgmfhcmceaaGreatDoorMf3
import Derived.Test.YtmoldgmfhcmceaaGreatDoorMf4
import Derived.Test.YtmoldgmfhcmceaaGreatDoorMf5
import Derived.Test.YtmoldgmfhcmceaaGreatDoorMf6
import Derived.Test.YtmoldgmfhcmceaaGreatDoorMf7
import Derived.Test.YtmoldgmfhcmceaaGreatDoorMf8
import Derived.Test.YtmoldgmfhcmceaaGreatDoorMf9
import Derived.Test.YtmoldgmfhcmceaaGreatDoorMf10
import Derived.Test.YtmoldgmfhcmceaaGreatDoorMf11
import Derived.Test.YtmoldgmfhcmceaaGreatDoorMf12
import Derived.Test.YtmoldgmfhcmceaaGreatDoorMf13
import Derived.Test.YtmoldgmfhcmceaaGreatDoorMf14
import Derived.Test.YtmoldgmfhcmceaaGreatDoorMf15
import Derived.Test.YtmoldgmfhcmceaaGreatDoorMf16
import Derived.Test.YtmoldgmfhcmceaaGreatDoorMf17
import Derived.Test.YtmoldgmfhcmceaaGreatDoorMf18
import Derived.Test.YtmoldgmfhcmceaaGreatDoorMf19
import Derived.Test.YtmoldgmfhcmceaaGreatDoorMf20
import Derived.Test.YtmoldgmfhcmceaaGreatDoorMf21
import Derived.Test.YtmoldgmfhcmceaaGreatDoorMf22
import Derived.Test.YtmoldgmfhcmceaaGreatDoorMf23
import Derived.Test.YtmoldgmfhcmceaaGreatDoorMf24
import Derived.Test.YtmoldgmfhcmceaaGreatDoorMf25
import Derived.Test.YtmoldgmfhcmceaaGreatDoorMf26
import Derived.Test.YtmoldgmfhcmceaaGreatDoorMf27
import Derived.Test.YtmoldgmfhcmceaaGreatDoorMf28
import Derived.Test.YtmoldgmfhcmceaaGreatDoorMf29
import Derived.Test.YtmoldgmfhcmceaaGreatDoorMf30
import Derived.Test.YtmoldgmfhcmceaaGreatDoorMf31
import Derived.Test.YtmoldgmfhcmceaaGreatDoorMf32
import Derived.Test.YtmoldgmfhcmceaaGreatDoorMf33
import Derived.Test.YtmoldgmfhcmceaaGreatDoorMf34
import Derived.Test.YtmoldgmfhcmceaaGreatDoorMf35
import Derived.Test.YtmoldgmfhcmceaaGreatDoorMf36
import Derived.Test.YtmoldgmfhcmceaaGreatDoorMf37
import Derived.Test.YtmoldgmfhcmceaaGreatDoorMf38
import Derived.Test.YtmoldgmfhcmceaaGreatDoorMf39
import Derived.Test.YtmoldgmfhcmceaaGreatDoorMf40
import Derived.Test.YtmoldgmfhcmceaaGreatDoorMf41
namespace Go.Proofs.YtmoldgmfhcmceaaGreatDoor.feesBound
open Go.ChangeShapes Go.WideShapes Go.ChangeAt Go.RowKit
open Fo
open Fe
open Cm (Ln lnv LnOk)
open Wo (Wd WdsAt box_cell box_two keepB heap_far below_alloc below_trans)
open Go.ChangeMaps (open_string)
set_option linter.unusedVariables false
set_option linter.unusedSimpArgs false


theorem own : ownKnob Tryz.prog.godebug = none := by kernel_rfl

/-! ### the walk: the law returns true -/
set_option maxHeartbeats 8000000 in
theorem walk (w : World) (v0 : Value) (l0 : List Fee) (h0 : FesAt All w v0 l0) (n0 : l0.length ≤ 281474976710656) (z0 : ∀ f ∈ l0, FeOk f) (x1 : Ln) (m1 : Value) (h1 : TxAt All w m1 x1.mods) (z1 : LnOk x1) (a2 : Int) (w2 : (Lit.int .i64 a2).wf = true) (hT : Nu.Tab w ∧ Da.Tab w) :
    Calls Tryz.prog 6 #[v0, lnv x1 m1, .int .i64 a2] w fun e w' => e = .returned (.bool true) ∧ Below w.heap.size w w' := by
  obtain ⟨hN, hD⟩ := hT
  obtain ⟨ma, mc, rfl, hm1, hm2⟩ := Cm.TxAt.form h1
  have hb0 := below_alloc w (.cells #[.string (mk x1.proc), .slice ma x1.mods.length mc, .int .i64 x1.date, .int .i64 x1.units, .int .i64 x1.billed, .int .i64 x1.prior] 37)
  have HZ := Lib.hid (heap_alloc_new w (.cells #[.string (mk x1.proc), .slice ma x1.mods.length mc, .int .i64 x1.date, .int .i64 x1.units, .int .i64 x1.billed, .int .i64 x1.prior] 37))
  have HB0 := Lib.hid hb0
  have HM := Lib.hid (tx_grw h1 hb0)
  have HF := Lib.hid (h0.grw hb0)
  have HWk : Hid (∀ W, Below w.heap.size w W → Calls Tryz.prog 8 #[] W fun e w' => e = .returned (.bool true) ∧ Below W.heap.size W w') := fun W hW => works_any W (Cm.tab_below hD hW) (Nu.tab_grw hN hW)
  have HLt := Lib.hid (light_any l0 v0 _ (h0.grw hb0) z0 n0)
  have HCk := Lib.hid (rcheck_any l0 v0 _ (h0.grw hb0) z0 n0)
  have HN0 := Lib.hid n0
  have HOk := Lib.hid z1
  obtain ⟨fa, fk, rfl, -, -⟩ := h0.form
  clear h0 h1 hb0 hN hD z0
  go_enter Tryz.func6, Tryz.ntmps6
  go_upto_region 1 with fail
  generalize w.alloc (.cells #[.string (mk x1.proc), .slice ma x1.mods.length mc, .int .i64 x1.date, .int .i64 x1.units, .int .i64 x1.billed, .int .i64 x1.prior] 37) = W at *
  generalize hp : w.heap.size = p at *
  obtain ⟨c0, c1, c2, c3, c4, c5⟩ := cells6 HZ.out
  go_wp2_with fail
  go_at_call 7
  refine HLt.out.mono ?_
  rintro e w1 ⟨⟨bl, rfl, hbl⟩, rfl⟩
  cases bl with
  | false =>
    clear hbl HCk HLt
    go_wp2_with (go_at_call 8; refine (HWk.out _ HB0.out).mono ?_; rintro e w9 ⟨rfl, hb9⟩; have HB9 := Lib.hid (below_tr hp HB0.out hb9); clear hb9)
    go_ret
    exact ⟨rfl, by first | exact HB9.out | (rw [hp]; exact HB9.out)⟩
  | true =>
    clear hbl HLt
    go_wp2_with fail
    go_at_call 12
    refine HCk.out.mono ?_
    rintro e w2 ⟨rfl, hb2⟩
    have HB2 := Lib.hid (below_tr hp HB0.out hb2)
    have HZ2 := Lib.hid (keepB HZ.out hb2)
    have HM2 := Lib.hid (tx_grw HM.out hb2)
    have HF2 := Lib.hid (HF.out.grw hb2)
    clear hb2 c0 c1 c2 c3 c4 c5 HCk HZ HM HF HB0
    obtain ⟨c0, c1, c2, c3, c4, c5⟩ := cells6 HZ2.out
    obtain ⟨ce, HCE⟩ : ∃ z, Hid (checkE l0 = z) := ⟨_, rfl⟩
    rw [HCE.out]
    by_cases hce : ce = 0
    rotate_left
    · have q1 : (ce != 0) = true := by simpa using hce
      clear hce
      go_wp2_with (go_at_call 8; refine (HWk.out _ HB2.out).mono ?_; rintro e w9 ⟨rfl, hb9⟩; have HB9 := Lib.hid (below_tr hp HB2.out hb9); clear hb9)
      go_ret
      exact ⟨rfl, by first | exact HB9.out | (rw [hp]; exact HB9.out)⟩
    · have q1 : (ce != 0) = false := by rw [hce]; rfl
      have HU : Hid (Up l0) := (check_facts (HCE.out.trans hce)).2.2
      clear hce
      have HLn := Lib.hid (Cm.rline_any x1 _ w2 HM2.out HOk.out)
      have HAl := Lib.hid fun W' (hW : Below w2.heap.size w2 W') => allowed_any l0 _ x1 _ a2 W' (HF2.out.grw hW) HN0.out HU.out (tx_grw HM2.out hW) HOk.out.2.1.2 HOk.out.2.1.1
      go_wp2_with fail
      go_at_call 20
      refine HLn.out.mono ?_
      rintro e w3 ⟨rfl, hb3⟩
      have HB3 := Lib.hid (below_tr hp HB2.out hb3)
      have HZ3 := Lib.hid (keepB HZ2.out hb3)
      have HAl3 := Lib.hid (HAl.out w3 hb3)
      clear hb3 c0 c1 c2 c3 c4 c5 HZ2 HB2 HLn HAl
      obtain ⟨c0, c1, c2, c3, c4, c5⟩ := cells6 HZ3.out
      obtain ⟨le, HLE⟩ : ∃ z, Hid (Cm.lineE x1 = z) := ⟨_, rfl⟩
      rw [HLE.out]
      by_cases hle : le = 0
      rotate_left
      · have q2 : (le != 0) = true := by simpa using hle
        clear hle
        go_wp2_with (go_at_call 8; refine (HWk.out _ HB3.out).mono ?_; rintro e w9 ⟨rfl, hb9⟩; have HB9 := Lib.hid (below_tr hp HB3.out hb9); clear hb9)
        go_ret
        exact ⟨rfl, by first | exact HB9.out | (rw [hp]; exact HB9.out)⟩
      · have q2 : (le != 0) = false := by rw [hle]; rfl
        have HBd := Lib.hid (allow_bd l0 x1 a2 (HLE.out.trans hle))
        clear hle
        go_wp2_with fail
        go_at_call 18
        refine HAl3.out.mono ?_
        rintro e w4 ⟨rfl, hb4⟩
        have HB4 := Lib.hid (below_tr hp HB3.out hb4)
        have HZ4 := Lib.hid (keepB HZ3.out hb4)
        clear hb4 c0 c1 c2 c3 c4 c5 HZ3 HB3 HAl3
        obtain ⟨c0, c1, c2, c3, c4, c5⟩ := cells6 HZ4.out
        obtain ⟨PB, HPB⟩ : ∃ z, Hid (priceB l0 x1 a2 = z) := ⟨_, rfl⟩
        obtain ⟨AV, HAV⟩ : ∃ z, Hid (allowV l0 x1 a2 = z) := ⟨_, rfl⟩
        rw [HPB.out, HAV.out]
        rw [HPB.out, HAV.out] at HBd
        cases PB with
        | false =>
          obtain rfl : AV = 0 := HBd.out.1 rfl
          clear HBd
          go_wp2_with (go_at_call 8; refine (HWk.out _ HB4.out).mono ?_; rintro e w9 ⟨rfl, hb9⟩; have HB9 := Lib.hid (below_tr hp HB4.out hb9); clear hb9)
          go_ret
          exact ⟨rfl, by first | exact HB9.out | (rw [hp]; exact HB9.out)⟩
        | true =>
          obtain ⟨b1, b2⟩ := HBd.out.2 rfl
          clear HBd
          go_wp2_with (go_at_call 8; refine (HWk.out _ HB4.out).mono ?_; rintro e w9 ⟨rfl, hb9⟩; have HB9 := Lib.hid (below_tr hp HB4.out hb9); clear hb9)
          go_ret
          exact ⟨rfl, by first | exact HB9.out | (rw [hp]; exact HB9.out)⟩

/-! ### the row's step -/
theorem laidOut : laidOutB Tryz.prog = true := by kernel_rfl
set_option maxRecDepth 100000 in
theorem lifted (os : Os) (started : os.Started) (H : Type) (enc : TypeId × Value → H) :
    ReturnsInHanded {} Tryz.checked os 6 .any (fun w args => (Rows.feesBoundSpec.pre enc Tryz.prog Tryz.f6 [] false w args ∧ laidMetH Tryz.prog laidL w) ∧ sizedMet enc Tryz.prog Tryz.f6 (OpenSpec.ofChange Rows.feesBoundSpec) false w args) (Rows.feesBoundSpec.post enc Tryz.prog Tryz.f6 false true false false) := by
  refine lift own started (by kernel_rfl) Tryz.func6
    (ChangeSpec.witness_shaped (enc := enc) (C := Tryz.checked) (os := os) (X := fun w _ => laidMetH Tryz.prog laidL w) false (World.laidAll Tryz.prog os laidL) #[.slice none 0 0, .agg #[.string ByteArray.empty, .slice none 0 0, .int .i64 0, .int .i64 0, .int .i64 0, .int .i64 0], .int .i64 0] 8 (World.laidAll_os _ _ _)
      (World.shaped_of_ZipB (by kernel_rfl) (by kernel_rfl)) (by kernel_rfl) (by kernel_rfl) (by kernel_rfl)
      (by rw [MakeChecks.laidMetH_plain _ _ _ (by kernel_rfl)]; exact laidMet_laidAll _ (by kernel_rfl) (by kernel_rfl))) ?_
  intro W base args ds gs before hval0 hW hwt hT
  have hval : ∀ (j : Nat) t v, Tryz.f6.params[j]? = some t → args[j]? = some v → Value.okWide Tryz.prog W .any base t v := hval0
  have hW' := hW
  obtain ⟨p, q, hA0, hV, rfl, hfz, hnd⟩ := hW
  have hA : DataW.TrodAll enc Tryz.prog W 0 (fun _ => true) true Tryz.f6.params.toList args.toList ds p := hA0
  rw [Tryz.params6] at hA hval hwt
  obtain ⟨v0, vs0, d0, ds0, p0, q0, hargs, rfl, rfl, h0, r0⟩ := trodAll_cons hA
  obtain ⟨v1, vs1, d1, ds1, p1, q1, rfl, rfl, rfl, h1, r1⟩ := trodAll_cons r0
  obtain ⟨v2, vs2, d2, ds2, p2, q2, rfl, rfl, rfl, h2, r2⟩ := trodAll_cons r1
  obtain ⟨rfl, rfl, rfl⟩ := trodAll_nil r2
  obtain rfl : args = #[v0, v1, v2] := by cases args; simp_all
  obtain ⟨rfl, rfl⟩ := trodVars_none hV
  have hwl : ∀ z, (z ∈ d0.weights Tryz.prog 22 → z ≤ reachBytes) ∧ (z ∈ d1.weights Tryz.prog 37 → z ≤ reachBytes) ∧ (z ∈ d2.weights Tryz.prog 3 → z ≤ reachBytes) := fun z => by
    have h := List.all_eq_true.1 hwt z
    simp only [decide_eq_true_eq] at h
    refine ⟨fun hz => h ?_, fun hz => h ?_, fun hz => h ?_⟩
    all_goals
      simp only [List.cons_append, List.nil_append, List.toList_toArray, List.append_nil, DataW.weightsEach, List.mem_append]
      simp [hz]
  have k0 := h0
  have lt0 : ∀ x ∈ p0, x.block < W.heap.size := by obtain ⟨m, hm⟩ := k0; exact DataW.trod_lt m _ _ _ hm
  obtain ⟨l0, g0, n0, z0⟩ := open_fees (okWide_slice Tryz.underlying22 (hval 0 22 v0 rfl rfl)) h0 (fun z hz => (hwl z).1 hz)
  have k1 := h1
  have lt1 : ∀ x ∈ p1, x.block < W.heap.size := by obtain ⟨m, hm⟩ := k1; exact DataW.trod_lt m _ _ _ hm
  obtain ⟨x1, m1, rfl, g1, z1⟩ := open_line (hval 1 37 v1 rfl rfl) h1 (fun z hz => (hwl z).2.1 hz)
  have k2 := h2
  have lt2 : ∀ x ∈ p2, x.block < W.heap.size := by obtain ⟨m, hm⟩ := k2; exact DataW.trod_lt m _ _ _ hm
  obtain ⟨a2, rfl, _, _, w2⟩ := open_int Tryz.underlying3 (hval 2 3 v2 rfl rfl) h2
  clear hA0 hval0
  refine (walk W v0 l0 g0 n0 z0 x1 m1 g1 z1 a2 w2 hT).mono fun e W' ⟨he, bel⟩ => ?_
  subst he
  exact ⟨_, rfl, _, _, _, [], _, [], hW', (trodAll_cons_mk (shut_bool Tryz.underlying4 _) trodAll_mk0), (trodAll_cons_mk (Below.trod laidOut (by kernel_rfl) (of_decide_eq_true (by kernel_rfl)) k0 bel lt0) (trodAll_cons_mk (Below.trod laidOut (by kernel_rfl) (of_decide_eq_true (by kernel_rfl)) k1 bel lt1) (trodAll_cons_mk (Below.trod laidOut (by kernel_rfl) (of_decide_eq_true (by kernel_rfl)) k2 bel lt2) trodAll_mk0))), rfl, bel.frame _, fun h => by cases h⟩

theorem over : Rows.feesBoundRow.holds Tryz.pinned (OpenSpec.ofChange Rows.feesBoundSpec) :=
  OpenClaim.holds_of_wide 6 Tryz.f6 rfl rfl rfl rfl rfl rfl rfl ⟨rfl, rfl, rfl, rfl, rfl⟩ rfl rfl rfl rfl rfl (by kernel_rfl) Tryz.func6 (by kernel_rfl)
    (of_decide_eq_true (by kernel_rfl)) (by unfold Func.isWrapper; first | (rw [if_pos (by decide +kernel)]; kernel_rfl) | (rw [if_neg (by decide +kernel)]; exact ⟨rfl, rfl⟩))
    (fun os started H enc _ => lifted os started H enc)

/-- The row's statement. -/
theorem proved : Rows.FeesBoundSaid := over
end Go.Proofs.YtmoldgmfhcmceaaGreatDoor.feesBound
namespace Go.Proofs.YtmoldgmfhcmceaaGreatDoor
theorem feesBound_holds : Rows.FeesBoundCardSaid :=
  Claim7.holds_tied_plain_at .later [] [.data, .data, .data, .data] true (true, "80dccdd50eaf1c53024e5eea2a051199af16ff3b85190e87a6f69e571cef1663") false
    feesBound.proved (fun _ h => by cases h) (by kernel_rfl) (fun _ h => by cases h) feesBound_row_tie rfl ⟨rfl, rfl⟩ (by kernel_rfl) rfl
    (fun f fn hf hfn => by
      obtain rfl : f = 6 := Option.some.inj ((show Tryz.prog.funcNamed "leechbook/leechbooklaw12.FeesBound" = some 6 by kernel_rfl).symm.trans hf) |>.symm
      obtain rfl : fn = Tryz.f6 := (Option.some.inj (Tryz.func6.symm.trans hfn)).symm
      exact ⟨by kernel_rfl, fun j t ht => by
        rw [Tryz.params6] at ht
        have hm : t ∈ [22, 37, 3] := by simpa using Array.mem_of_getElem? ht
        have hall : ([22, 37, 3].all fun u => !Tryz.prog.wantsStandIn u) = true := by kernel_rfl
        exact (show Tryz.prog.wantsStandIn t = false by simpa using List.all_eq_true.1 hall t hm)⟩)
    (by kernel_rfl)
#print axioms feesBound_holds
end Go.Proofs.YtmoldgmfhcmceaaGreatDoor
