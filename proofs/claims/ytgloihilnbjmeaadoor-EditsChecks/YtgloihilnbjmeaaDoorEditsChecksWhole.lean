/-
  EditsChecks holds for every table: whether it may be, and it as a text, are what the chapter says.
-/
import Derived.WalkKit
import Derived.ProofKit
import Derived.OpenShut
import Derived.ShutString
import Derived.Below
import Derived.Carry
import Derived.LaidMore
import Derived.Stop.Joined
import Derived.SevenTiedAt
import Derived.Deep.DeepCutAuto
import Derived.Test.YtgloihilnbjmeaaDoorRows
import Derived.Test.YtgloihilnbjmeaaDoorTie
import Derived.Test.YtgloihilnbjmeaaDoorCards
import Derived.Test.YtgloihilnbjmeaaDoorMc1
import Derived.Test.YtgloihilnbjmeaaDoorMc2
import Derived.Test.YtgloihilnbjmeaaDoorMc3
import Derived.Test.YtgloihilnbjmeaaDoorMc4
import Derived.Test.YtgloihilnbjmeaaDoorMc5
import Derived.Test.YtgloihilnbjmeaaDoorMc6
import Derived.Test.YtgloihilnbjmeaaDoorMc7
import Derived.Test.YtgloihilnbjmeaaDoorMc8
import Derived.Test.YtgloihilnbjmeaaDoorMc9
import Derived.Test.YtgloihilnbjmeaaDoorMc10
import Derived.Test.YtgloihilnbjmeaaDoorMc11
import Derived.Test.YtgloihilnbjmeaaDoorMc12
import Derived.Test.YtgloihilnbjmeaaDoorMc13
import Derived.Test.YtgloihilnbjmeaaDoorMc14
import Derived.Test.YtgloihilnbjmeaaDoorMc15
import Derived.Test.YtgloihilnbjmeaaDoorMc16
import Derived.Test.YtgloihilnbjmeaaDoorMc17
import Derived.Test.YtgloihilnbjmeaaDoorMc18
import Derived.Test.YtgloihilnbjmeaaDoorMc19
import Derived.Test.YtgloihilnbjmeaaDoorMc20
import Derived.Test.YtgloihilnbjmeaaDoorMc21
import Derived.Test.YtgloihilnbjmeaaDoorMc22
import Derived.Test.YtgloihilnbjmeaaDoorMc23
import Derived.Test.YtgloihilnbjmeaaDoorMc24
import Derived.Test.YtgloihilnbjmeaaDoorMc25
import Derived.Test.YtgloihilnbjmeaaDoorMc26
import Derived.Test.YtgloihilnbjmeaaDoorMc27
import Derived.Test.YtgloihilnbjmeaaDoorMc28
import Derived.Test.YtgloihilnbjmeaaDoorMc29
import Derived.Test.YtgloihilnbjmeaaDoorMc30
import Derived.Test.YtgloihilnbjmeaaDoorMc31
import Derived.Test.YtgloihilnbjmeaaDoorMc32
import Derived.Test.YtgloihilnbjmeaaDoorMc33
import Derived.Test.YtgloihilnbjmeaaDoorMc34
import Derived.Test.YtgloihilnbjmeaaDoorMc35
import Derived.Test.YtgloihilnbjmeaaDoorMc36
import Derived.Test.YtgloihilnbjmeaaDoorMc37
import Derived.Test.YtgloihilnbjmeaaDoorMc38
import Derived.Test.YtgloihilnbjmeaaDoorMc39
import Derived.Test.YtgloihilnbjmeaaDoorMc40
import Derived.Test.YtgloihilnbjmeaaDoorMc41
import Derived.Test.YtgloihilnbjmeaaDoorMc42
import Derived.Test.YtgloihilnbjmeaaDoorMc43
import Derived.Test.YtgloihilnbjmeaaDoorMc44
import Derived.Test.YtgloihilnbjmeaaDoorMc45
import Derived.Test.YtgloihilnbjmeaaDoorMc46
import Derived.Test.YtgloihilnbjmeaaDoorMc47
import Derived.Test.YtgloihilnbjmeaaDoorMc48
import Derived.Test.YtgloihilnbjmeaaDoorMc49
namespace Go.Proofs.YtgloihilnbjmeaaDoor.editsChecks
open Go.ChangeShapes Go.WideShapes Go.ChangeAt Go.RowKit
open Xo
open Ex
open Cm (Ln LnsAt lnv LnOk)
open Wo (Wd WdsAt box_cell box_two keepB heap_far below_alloc below_trans)
open Go.ChangeMaps (open_string)
set_option linter.unusedVariables false
set_option linter.unusedSimpArgs false


theorem own : ownKnob Tryd.prog.godebug = none := by kernel_rfl

/-! ### the walk: the law returns true -/
set_option maxHeartbeats 8000000 in
theorem walk (w : World) (v0 : Value) (l0 : List Ed) (h0 : EdsAt All w v0 l0) (n0 : l0.length ≤ 281474976710656) (z0 : ∀ f ∈ l0, EdOk f) (hT : Nu.Tab w) :
    Calls Tryd.prog 3 #[v0] w fun e w' => e = .returned (.bool true) ∧ Below w.heap.size w w' := by
  have HWk : Hid (∀ W, Below w.heap.size w W → Calls Tryd.prog 10 #[] W fun e w' => e = .returned (.bool true) ∧ Below W.heap.size W w') := fun W hW => works_any W (Nu.tab_grw hT hW)
  have HB0 := Lib.hid (Below.refl w.heap.size w)
  have HLt := Lib.hid (light_any l0 v0 [] (.slice none 0 0) w h0 (lns_none _) z0 n0 (by simp) (by simp))
  have HP1 := Lib.hid fun W (hW : Below w.heap.size w W) => print_any l0 v0 W (h0.grw hW) z0 n0 (Nu.tab_grw hT hW)
  have HP2 := Lib.hid fun W (hW : Below w.heap.size w W) => rprint_any l0 v0 W (h0.grw hW) z0 n0
  have HC1 := Lib.hid fun W (hW : Below w.heap.size w W) => check_any l0 v0 W (h0.grw hW) z0 n0
  have HC2 := Lib.hid fun W (hW : Below w.heap.size w W) => rcheck_any l0 v0 W (h0.grw hW) z0 n0
  generalize checkE l0 = E at *
  generalize mk (prV l0) = T at *
  obtain ⟨fa, fk, rfl, -, -⟩ := h0.form
  clear h0 z0 hT
  go_enter Tryd.func3, Tryd.ntmps3
  go_wp2_with fail
  go_at_call 9
  refine HLt.out.mono ?_
  rintro e w1 ⟨⟨bl, rfl, hbl⟩, hb1⟩
  have HB1 := Lib.hid hb1
  clear hb1 HLt
  cases bl with
  | false =>
    clear hbl HP1 HP2 HC1 HC2
    go_wp2_with (go_at_call 10; refine (HWk.out _ HB1.out).mono ?_; rintro e w9 ⟨rfl, hb9⟩; have HB9 := Lib.hid (below_trans HB1.out hb9); clear hb9)
    go_ret
    exact ⟨rfl, HB9.out⟩
  | true =>
    clear hbl
    go_wp2_with fail
    go_at_call 11
    refine (HP1.out _ HB1.out).mono ?_
    rintro e w2 ⟨rfl, hb2⟩
    have HB2 := Lib.hid (below_trans HB1.out hb2)
    clear hb2
    go_wp2_with fail
    go_at_call 12
    refine (HP2.out _ HB2.out).mono ?_
    rintro e w3 ⟨rfl, hb3⟩
    have HB3 := Lib.hid (below_trans HB2.out hb3)
    clear hb3
    go_wp2_with fail
    go_at_call 13
    refine (HC1.out _ HB3.out).mono ?_
    rintro e w4 ⟨rfl, hb4⟩
    have HB4 := Lib.hid (below_trans HB3.out hb4)
    clear hb4
    go_wp2_with fail
    go_at_call 14
    refine (HC2.out _ HB4.out).mono ?_
    rintro e w5 ⟨rfl, hb5⟩
    have HB5 := Lib.hid (below_trans HB4.out hb5)
    clear hb5
    go_wp2_with (go_at_call 10; refine (HWk.out _ HB5.out).mono ?_; rintro e w9 ⟨rfl, hb9⟩; have HB9 := Lib.hid (below_trans HB5.out hb9); clear hb9)
    go_ret
    exact ⟨rfl, HB9.out⟩

/-! ### the row's step -/
theorem laidOut : laidOutB Tryd.prog = true := by kernel_rfl
set_option maxRecDepth 100000 in
theorem lifted (os : Os) (started : os.Started) (H : Type) (enc : TypeId × Value → H) :
    ReturnsInHanded {} Tryd.checked os 3 .any (fun w args => (Rows.editsChecksSpec.pre enc Tryd.prog Tryd.f3 [] false w args ∧ laidMetH Tryd.prog laidL w) ∧ sizedMet enc Tryd.prog Tryd.f3 (OpenSpec.ofChange Rows.editsChecksSpec) false w args) (Rows.editsChecksSpec.post enc Tryd.prog Tryd.f3 false true false false) := by
  refine lift own started (by kernel_rfl) Tryd.func3
    (ChangeSpec.witness_shaped (enc := enc) (C := Tryd.checked) (os := os) (X := fun w _ => laidMetH Tryd.prog laidL w) false (World.laidAll Tryd.prog os laidL) #[.slice none 0 0] 8 (World.laidAll_os _ _ _)
      (World.shaped_of_ZipB (by kernel_rfl) (by kernel_rfl)) (by kernel_rfl) (by kernel_rfl) (by kernel_rfl)
      (by rw [MakeChecks.laidMetH_plain _ _ _ (by kernel_rfl)]; exact laidMet_laidAll _ (by kernel_rfl) (by kernel_rfl))) ?_
  intro W base args ds gs before hval0 hW hwt hT
  have hval : ∀ (j : Nat) t v, Tryd.f3.params[j]? = some t → args[j]? = some v → Value.okWide Tryd.prog W .any base t v := hval0
  have hW' := hW
  obtain ⟨p, q, hA0, hV, rfl, hfz, hnd⟩ := hW
  have hA : DataW.TrodAll enc Tryd.prog W 0 (fun _ => true) true Tryd.f3.params.toList args.toList ds p := hA0
  rw [Tryd.params3] at hA hval hwt
  obtain ⟨v0, vs0, d0, ds0, p0, q0, hargs, rfl, rfl, h0, r0⟩ := trodAll_cons hA
  obtain ⟨rfl, rfl, rfl⟩ := trodAll_nil r0
  obtain rfl : args = #[v0] := by cases args; simp_all
  obtain ⟨rfl, rfl⟩ := trodVars_none hV
  have hwl : ∀ z, (z ∈ d0.weights Tryd.prog 22 → z ≤ reachBytes) := fun z => by
    have h := List.all_eq_true.1 hwt z
    simp only [decide_eq_true_eq] at h
    refine fun hz => h ?_
    all_goals
      simp only [List.cons_append, List.nil_append, List.toList_toArray, List.append_nil, DataW.weightsEach, List.mem_append]
      simp [hz]
  have k0 := h0
  have lt0 : ∀ x ∈ p0, x.block < W.heap.size := by obtain ⟨m, hm⟩ := k0; exact DataW.trod_lt m _ _ _ hm
  obtain ⟨l0, g0, n0, z0⟩ := open_edits (okWide_slice Tryd.underlying22 (hval 0 22 v0 rfl rfl)) h0 (fun z hz => hwl z hz)
  clear hA0 hval0
  refine (walk W v0 l0 g0 n0 z0 hT).mono fun e W' ⟨he, bel⟩ => ?_
  subst he
  exact ⟨_, rfl, _, _, _, [], _, [], hW', (trodAll_cons_mk (shut_bool Tryd.underlying4 _) trodAll_mk0), (trodAll_cons_mk (Below.trod laidOut (by kernel_rfl) (of_decide_eq_true (by kernel_rfl)) k0 bel lt0) trodAll_mk0), rfl, bel.frame _, fun h => by cases h⟩

theorem over : Rows.editsChecksRow.holds Tryd.pinned (OpenSpec.ofChange Rows.editsChecksSpec) :=
  OpenClaim.holds_of_wide 3 Tryd.f3 rfl rfl rfl rfl rfl rfl rfl ⟨rfl, rfl, rfl, rfl, rfl⟩ rfl rfl rfl rfl rfl (by kernel_rfl) Tryd.func3 (by kernel_rfl)
    (of_decide_eq_true (by kernel_rfl)) (by unfold Func.isWrapper; first | (rw [if_pos (by decide +kernel)]; kernel_rfl) | (rw [if_neg (by decide +kernel)]; exact ⟨rfl, rfl⟩))
    (fun os started H enc _ => lifted os started H enc)

/-- The row's statement. -/
theorem proved : Rows.EditsChecksSaid := over
end Go.Proofs.YtgloihilnbjmeaaDoor.editsChecks
namespace Go.Proofs.YtgloihilnbjmeaaDoor
theorem editsChecks_holds : Rows.EditsChecksCardSaid :=
  Claim7.holds_tied_plain_at .later [] [.data, .data, .data] true (true, "b44c92bab4fb646ddc684cfa4b24097984c9645ac2fd34c5cae9cfe79b4f134b") false
    editsChecks.proved (fun _ h => by cases h) (by kernel_rfl) (fun _ h => by cases h) editsChecks_row_tie rfl ⟨rfl, rfl⟩ (by kernel_rfl) rfl
    (fun f fn hf hfn => by
      obtain rfl : f = 3 := Option.some.inj ((show Tryd.prog.funcNamed "leechbook/leechbooklaw13.EditsChecks" = some 3 by kernel_rfl).symm.trans hf) |>.symm
      obtain rfl : fn = Tryd.f3 := (Option.some.inj (Tryd.func3.symm.trans hfn)).symm
      exact ⟨by kernel_rfl, fun j t ht => by
        rw [Tryd.params3] at ht
        have hm : t ∈ [22] := by simpa using Array.mem_of_getElem? ht
        have hall : ([22].all fun u => !Tryd.prog.wantsStandIn u) = true := by kernel_rfl
        exact (show Tryd.prog.wantsStandIn t = false by simpa using List.all_eq_true.1 hall t hm)⟩)
    (by kernel_rfl)
#print axioms editsChecks_holds
end Go.Proofs.YtgloihilnbjmeaaDoor
