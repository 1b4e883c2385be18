/-
  FeesChecks holds for every table: whether it may be, and the table as a text, are what the chapter says.
-/
import Derived.WalkKit
import Derived.ProofKit
import Derived.OpenShut
import Derived.ShutString
import Derived.Below
import Derived.Carry
import Derived.LaidMore
import Derived.Stop.Joined
import Derived.SevenTiedAt
import Derived.Deep.DeepCutAuto
import Derived.Test.YtmoldgmfhcmceaaGreatDoorRows
import Derived.Test.YtmoldgmfhcmceaaGreatDoorTie
import Derived.Test.YtmoldgmfhcmceaaGreatDoorCards
import Derived.Test.YtmoldgmfhcmceaaGreatDoorMc1
import Derived.Test.YtmoldgmfhcmceaaGreatDoorMc2
import Derived.Test.YtmoldgmfhcmceaaGreatDoorMc3
import Derived.Test.YtmoldgmfhcmceaaGreatDoorMc4
import Derived.Test.YtmoldgmfhcmceaaGreatDoorMc5
import Derived.Test.YtmoldgmfhcmceaaGreatDoorMc6
import Derived.Test.YtmoldgmfhcmceaaGreatDoorMc7
import Derived.Test.YtmoldgmfhcmceaaGreatDoorMc8
import Derived.Test.YtmoldgmfhcmceaaGreatDoorMc9
import Derived.Test.YtmoldgmfhcmceaaGreatDoorMc10
import Derived.Test.YtmoldgmfhcmceaaGreatDoorMc11
import Derived.Test.YtmoldgmfhcmceaaGreatDoorMc12
import Derived.Test.YtmoldgmfhcmceaaGreatDoorMc13
import Derived.Test.YtmoldgmfhcmceaaGreatDoorMc14
import Derived.Test.YtmoldgmfhcmceaaGreatDoorMc15
import Derived.Test.YtmoldgmfhcmceaaGreatDoorMc16
import Derived.Test.YtmoldgmfhcmceaaGreatDoorMc17
import Derived.Test.YtmoldgmfhcmceaaGreatDoorMc18
import Derived.Test.YtmoldgmfhcmceaaGreatDoorMc19
import Derived.Test.YtmoldgmfhcmceaaGreatDoorMc20
import Derived.Test.YtmoldgmfhcmceaaGreatDoorMc21
import Derived.Test.YtmoldgmfhcmceaaGreatDoorMc22
import Derived.Test.YtmoldgmfhcmceaaGreatDoorMc23
import Derived.Test.YtmoldgmfhcmceaaGreatDoorMc24
import Derived.Test.YtmoldgmfhcmceaaGreatDoorMc25
import Derived.Test.YtmoldgmfhcmceaaGreatDoorMc26
import Derived.Test.YtmoldgmfhcmceaaGreatDoorMc27
import Derived.Test.YtmoldgmfhcmceaaGreatDoorMc28
import Derived.Test.YtmoldgmfhcmceaaGreatDoorMc29
import Derived.Test.YtmoldgmfhcmceaaGreatDoorMc30
import Derived.Test.YtmoldgmfhcmceaaGreatDoorMc31
import Derived.Test.YtmoldgmfhcmceaaGreatDoorMc32
import Derived.Test.YtmoldgmfhcmceaaGreatDoorMc33
import Derived.Test.YtmoldgmfhcmceaaGreatDoorMc34
import Derived.Test.YtmoldgmfhcmceaaGreatDoorMc35
import Derived.Test.YtmoldgmfhcmceaaGreatDoorMc36
import Derived.Test.YtmoldgmfhcmceaaGreatDoorMc37
import Derived.Test.YtmoldgmfhcmceaaGreatDoorMc38
import Derived.Test.YtmoldgmfhcmceaaGreatDoorMc39
namespace Go.Proofs.YtmoldgmfhcmceaaGreatDoor.feesChecks
open Go.ChangeShapes Go.WideShapes Go.ChangeAt Go.RowKit
open Fo
open Fe
open Cm (Ln lnv LnOk)
open Wo (Wd WdsAt box_cell box_two keepB heap_far below_alloc below_trans)
open Go.ChangeMaps (open_string)
set_option linter.unusedVariables false
set_option linter.unusedSimpArgs false


theorem own : ownKnob Tryz.prog.godebug = none := by kernel_rfl

/-! ### the walk: the law returns true -/
set_option maxHeartbeats 8000000 in
theorem walk (w : World) (v0 : Value) (l0 : List Fee) (h0 : FesAt All w v0 l0) (n0 : l0.length ≤ 281474976710656) (z0 : ∀ f ∈ l0, FeOk f) (hT : Nu.Tab w ∧ Da.Tab w) :
    Calls Tryz.prog 3 #[v0] w fun e w' => e = .returned (.bool true) ∧ Below w.heap.size w w' := by
  obtain ⟨hN, hD⟩ := hT
  have HWk : Hid (∀ W, Below w.heap.size w W → Calls Tryz.prog 8 #[] W fun e w' => e = .returned (.bool true) ∧ Below W.heap.size W w') := fun W hW => works_any W (Cm.tab_below hD hW) (Nu.tab_grw hN hW)
  have HLt := Lib.hid (light_any l0 v0 w h0 z0 n0)
  have HPr := Lib.hid (print_any l0 v0 w h0 z0 n0 hD hN)
  have HRp : Hid (∀ W, Below w.heap.size w W → _) := fun W hW => rprint_any l0 v0 W (h0.grw hW) z0 n0
  have HCk : Hid (∀ W, Below w.heap.size w W → _) := fun W hW => check_any l0 v0 W (h0.grw hW) z0 n0 (Cm.tab_below hD hW)
  have HRc : Hid (∀ W, Below w.heap.size w W → _) := fun W hW => rcheck_any l0 v0 W (h0.grw hW) z0 n0
  have HB0 := Lib.hid (Below.refl w.heap.size w)
  obtain ⟨fa, fk, rfl, -, -⟩ := h0.form
  clear h0 z0 n0 hN hD
  generalize mk (prV l0) = T at *
  generalize checkE l0 = E at *
  go_enter Tryz.func3, Tryz.ntmps3
  go_wp2_with fail
  go_at_call 7
  refine HLt.out.mono ?_
  rintro e w1 ⟨⟨bl, rfl, hbl⟩, hw1⟩
  rw [hw1]
  clear hw1 w1 hbl HLt
  cases bl with
  | false =>
    clear HPr HRp HCk HRc
    go_wp2_with (go_at_call 8; refine (HWk.out _ HB0.out).mono ?_; rintro e w9 ⟨rfl, hb9⟩; have HB9 := Lib.hid (below_trans HB0.out hb9); clear hb9)
    go_ret
    exact ⟨rfl, HB9.out⟩
  | true =>
    go_wp2_with fail
    go_at_call 9
    refine HPr.out.mono ?_
    rintro e w2 ⟨rfl, hb2⟩
    have HB2 := Lib.hid hb2
    clear hb2 HPr HB0
    go_wp2_with fail
    go_at_call 10
    refine (HRp.out _ HB2.out).mono ?_
    rintro e w3 ⟨rfl, hb3⟩
    have HB3 := Lib.hid (below_trans HB2.out hb3)
    clear hb3 HB2 HRp
    go_wp2_with (first | (go_at_call 11; refine (HCk.out _ HB3.out).mono ?_; rintro e w4 ⟨rfl, hb4⟩; have HB4 := Lib.hid (below_trans HB3.out hb4); clear hb4) | (go_at_call 12; refine (HRc.out _ HB4.out).mono ?_; rintro e w5 ⟨rfl, hb5⟩; have HB5 := Lib.hid (below_trans HB4.out hb5); clear hb5) | (go_at_call 8; refine (HWk.out _ HB5.out).mono ?_; rintro e w9 ⟨rfl, hb9⟩; have HB9 := Lib.hid (below_trans HB5.out hb9); clear hb9))
    go_ret
    exact ⟨rfl, HB9.out⟩

/-! ### the row's step -/
theorem laidOut : laidOutB Tryz.prog = true := by kernel_rfl
set_option maxRecDepth 100000 in
theorem lifted (os : Os) (started : os.Started) (H : Type) (enc : TypeId × Value → H) :
    ReturnsInHanded {} Tryz.checked os 3 .any (fun w args => (Rows.feesChecksSpec.pre enc Tryz.prog Tryz.f3 [] false w args ∧ laidMetH Tryz.prog laidL w) ∧ sizedMet enc Tryz.prog Tryz.f3 (OpenSpec.ofChange Rows.feesChecksSpec) false w args) (Rows.feesChecksSpec.post enc Tryz.prog Tryz.f3 false true false false) := by
  refine lift own started (by kernel_rfl) Tryz.func3
    (ChangeSpec.witness_shaped (enc := enc) (C := Tryz.checked) (os := os) (X := fun w _ => laidMetH Tryz.prog laidL w) false (World.laidAll Tryz.prog os laidL) #[.slice none 0 0] 8 (World.laidAll_os _ _ _)
      (World.shaped_of_ZipB (by kernel_rfl) (by kernel_rfl)) (by kernel_rfl) (by kernel_rfl) (by kernel_rfl)
      (by rw [MakeChecks.laidMetH_plain _ _ _ (by kernel_rfl)]; exact laidMet_laidAll _ (by kernel_rfl) (by kernel_rfl))) ?_
  intro W base args ds gs before hval0 hW hwt hT
  have hval : ∀ (j : Nat) t v, Tryz.f3.params[j]? = some t → args[j]? = some v → Value.okWide Tryz.prog W .any base t v := hval0
  have hW' := hW
  obtain ⟨p, q, hA0, hV, rfl, hfz, hnd⟩ := hW
  have hA : DataW.TrodAll enc Tryz.prog W 0 (fun _ => true) true Tryz.f3.params.toList args.toList ds p := hA0
  rw [Tryz.params3] at hA hval hwt
  obtain ⟨v0, vs0, d0, ds0, p0, q0, hargs, rfl, rfl, h0, r0⟩ := trodAll_cons hA
  obtain ⟨rfl, rfl, rfl⟩ := trodAll_nil r0
  obtain rfl : args = #[v0] := by cases args; simp_all
  obtain ⟨rfl, rfl⟩ := trodVars_none hV
  have hwl : ∀ z, (z ∈ d0.weights Tryz.prog 22 → z ≤ reachBytes) := fun z => by
    have h := List.all_eq_true.1 hwt z
    simp only [decide_eq_true_eq] at h
    refine fun hz => h ?_
    all_goals
      simp only [List.cons_append, List.nil_append, List.toList_toArray, List.append_nil, DataW.weightsEach, List.mem_append]
      simp [hz]
  have k0 := h0
  have lt0 : ∀ x ∈ p0, x.block < W.heap.size := by obtain ⟨m, hm⟩ := k0; exact DataW.trod_lt m _ _ _ hm
  obtain ⟨l0, g0, n0, z0⟩ := open_fees (okWide_slice Tryz.underlying22 (hval 0 22 v0 rfl rfl)) h0 (fun z hz => hwl z hz)
  clear hA0 hval0
  refine (walk W v0 l0 g0 n0 z0 hT).mono fun e W' ⟨he, bel⟩ => ?_
  subst he
  exact ⟨_, rfl, _, _, _, [], _, [], hW', (trodAll_cons_mk (shut_bool Tryz.underlying4 _) trodAll_mk0), (trodAll_cons_mk (Below.trod laidOut (by kernel_rfl) (of_decide_eq_true (by kernel_rfl)) k0 bel lt0) trodAll_mk0), rfl, bel.frame _, fun h => by cases h⟩

theorem over : Rows.feesChecksRow.holds Tryz.pinned (OpenSpec.ofChange Rows.feesChecksSpec) :=
  OpenClaim.holds_of_wide 3 Tryz.f3 rfl rfl rfl rfl rfl rfl rfl ⟨rfl, rfl, rfl, rfl, rfl⟩ rfl rfl rfl rfl rfl (by kernel_rfl) Tryz.func3 (by kernel_rfl)
    (of_decide_eq_true (by kernel_rfl)) (by unfold Func.isWrapper; first | (rw [if_pos (by decide +kernel)]; kernel_rfl) | (rw [if_neg (by decide +kernel)]; exact ⟨rfl, rfl⟩))
    (fun os started H enc _ => lifted os started H enc)

/-- The row's statement. -/
theorem proved : Rows.FeesChecksSaid := over
end Go.Proofs.YtmoldgmfhcmceaaGreatDoor.feesChecks
namespace Go.Proofs.YtmoldgmfhcmceaaGreatDoor
theorem feesChecks_holds : Rows.FeesChecksCardSaid :=
  Claim7.holds_tied_plain_at .later [] [.data, .data, .data, .data] true (true, "80dccdd50eaf1c53024e5eea2a051199af16ff3b85190e87a6f69e571cef1663") false
    feesChecks.proved (fun _ h => by cases h) (by kernel_rfl) (fun _ h => by cases h) feesChecks_row_tie rfl ⟨rfl, rfl⟩ (by kernel_rfl) rfl
    (fun f fn hf hfn => by
      obtain rfl : f = 3 := Option.some.inj ((show Tryz.prog.funcNamed "leechbook/leechbooklaw12.FeesChecks" = some 3 by kernel_rfl).symm.trans hf) |>.symm
      obtain rfl : fn = Tryz.f3 := (Option.some.inj (Tryz.func3.symm.trans hfn)).symm
      exact ⟨by kernel_rfl, fun j t ht => by
        rw [Tryz.params3] at ht
        have hm : t ∈ [22] := by simpa using Array.mem_of_getElem? ht
        have hall : ([22].all fun u => !Tryz.prog.wantsStandIn u) = true := by kernel_rfl
        exact (show Tryz.prog.wantsStandIn t = false by simpa using List.all_eq_true.1 hall t hm)⟩)
    (by kernel_rfl)
#print axioms feesChecks_holds
end Go.Proofs.YtmoldgmfhcmceaaGreatDoor
