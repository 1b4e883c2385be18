/-
  EditsParses holds for every text: which table it is, or where it is none, is what the chapter says.
-/
import Derived.WalkKit
import Derived.ProofKit
import Derived.OpenShut
import Derived.ShutString
import Derived.Below
import Derived.Carry
import Derived.LaidMore
import Derived.Stop.Joined
import Derived.SevenTiedAt
import Derived.Deep.DeepCutAuto
import Derived.Test.YtgloihilnbjmeaaDoorRows
import Derived.Test.YtgloihilnbjmeaaDoorTie
import Derived.Test.YtgloihilnbjmeaaDoorCards
import Derived.Test.YtgloihilnbjmeaaDoorMp1
import Derived.Test.YtgloihilnbjmeaaDoorMp2
import Derived.Test.YtgloihilnbjmeaaDoorMp3
import Derived.Test.YtgloihilnbjmeaaDoorMp4
import Derived.Test.YtgloihilnbjmeaaDoorMp5
import Derived.Test.YtgloihilnbjmeaaDoorMp6
import Derived.Test.YtgloihilnbjmeaaDoorMp7
import Derived.Test.YtgloihilnbjmeaaDoorMp8
import Derived.Test.YtgloihilnbjmeaaDoorMp9
import Derived.Test.YtgloihilnbjmeaaDoorMp10
import Derived.Test.YtgloihilnbjmeaaDoorMp11
import Derived.Test.YtgloihilnbjmeaaDoorMp12
import Derived.Test.YtgloihilnbjmeaaDoorMp13
import Derived.Test.YtgloihilnbjmeaaDoorMp14
import Derived.Test.YtgloihilnbjmeaaDoorMp15
import Derived.Test.YtgloihilnbjmeaaDoorMp16
import Derived.Test.YtgloihilnbjmeaaDoorMp17
import Derived.Test.YtgloihilnbjmeaaDoorMp18
import Derived.Test.YtgloihilnbjmeaaDoorMp19
import Derived.Test.YtgloihilnbjmeaaDoorMp20
import Derived.Test.YtgloihilnbjmeaaDoorMp21
import Derived.Test.YtgloihilnbjmeaaDoorMp22
import Derived.Test.YtgloihilnbjmeaaDoorMp23
import Derived.Test.YtgloihilnbjmeaaDoorMp24
import Derived.Test.YtgloihilnbjmeaaDoorMp25
import Derived.Test.YtgloihilnbjmeaaDoorMp26
import Derived.Test.YtgloihilnbjmeaaDoorMp27
import Derived.Test.YtgloihilnbjmeaaDoorMp28
import Derived.Test.YtgloihilnbjmeaaDoorMp29
import Derived.Test.YtgloihilnbjmeaaDoorMp30
import Derived.Test.YtgloihilnbjmeaaDoorMp31
import Derived.Test.YtgloihilnbjmeaaDoorMp32
import Derived.Test.YtgloihilnbjmeaaDoorMp33
import Derived.Test.YtgloihilnbjmeaaDoorMp34
import Derived.Test.YtgloihilnbjmeaaDoorMp35
import Derived.Test.YtgloihilnbjmeaaDoorMp36
import Derived.Test.YtgloihilnbjmeaaDoorMp37
import Derived.Test.YtgloihilnbjmeaaDoorMp38
import Derived.Test.YtgloihilnbjmeaaDoorMp39
import Derived.Test.YtgloihilnbjmeaaDoorMp40
import Derived.Test.YtgloihilnbjmeaaDoorMp41
import Derived.Test.YtgloihilnbjmeaaDoorMp42
import Derived.Test.YtgloihilnbjmeaaDoorMp43
import Derived.Test.YtgloihilnbjmeaaDoorMp44
import Derived.Test.YtgloihilnbjmeaaDoorMp45
import Derived.Test.YtgloihilnbjmeaaDoorMp46
import Derived.Test.YtgloihilnbjmeaaDoorMp47
import Derived.Test.YtgloihilnbjmeaaDoorMp48
import Derived.Test.YtgloihilnbjmeaaDoorMp49
import Derived.Test.YtgloihilnbjmeaaDoorMp50
namespace Go.Proofs.YtgloihilnbjmeaaDoor.editsParses
open Go.ChangeShapes Go.WideShapes Go.ChangeAt Go.RowKit
open Xo
open Ex
open Cm (Ln LnsAt lnv LnOk)
open Wo (Wd WdsAt box_cell box_two keepB heap_far below_alloc below_trans)
open Go.ChangeMaps (open_string)
set_option linter.unusedVariables false
set_option linter.unusedSimpArgs false


theorem own : ownKnob Tryd.prog.godebug = none := by kernel_rfl

/-! ### the walk: the law returns true -/
set_option maxHeartbeats 8000000 in
theorem walk (w : World) (a0 : ByteArray) (w0 : a0.size ≤ maxLen) (hT : Nu.Tab w) :
    Calls Tryd.prog 4 #[.string a0] w fun e w' => e = .returned (.bool true) ∧ Below w.heap.size w w' := by
  have HWk : Hid (∀ W, Below w.heap.size w W → Calls Tryd.prog 10 #[] W fun e w' => e = .returned (.bool true) ∧ Below W.heap.size W w') := fun W hW => works_any W (Nu.tab_grw hT hW)
  have HB0 := Lib.hid (Below.refl w.heap.size w)
  by_cases hl : 8000 < a0.size
  · have hl' : (8000 : Int) < (a0.size : Int) := by omega
    clear hl
    go_enter Tryd.func4, Tryd.ntmps4
    go_wp2_with (go_at_call 10; refine (HWk.out _ HB0.out).mono ?_; rintro e w9 ⟨rfl, hb9⟩; have HB9 := Lib.hid (below_trans HB0.out hb9); clear hb9)
    go_ret
    exact ⟨rfl, HB9.out⟩
  have hl' : ¬ (8000 : Int) < (a0.size : Int) := by omega
  have HP0 := Lib.hid fun W : World => parse_any a0 W w0
  have HP1 := Lib.hid fun W : World => rparse_any a0 W w0
  have hlen : (resL (paR a0.data.toList)).length ≤ 256 := by
    cases hp : paR a0.data.toList with
    | ok l => exact (check_facts (text_once hp)).1
    | error x => exact Nat.zero_le _
  have HSm := Lib.hid fun W u v hu hv => same_eq (resL (paR a0.data.toList)) u v W hu hv (by omega)
  unfold ParV at HP0 HP1
  generalize resL (paR a0.data.toList) = L at *
  generalize resE (paR a0.data.toList) = E at *
  generalize resA (paR a0.data.toList) = A at *
  clear hl w0 hT hlen
  go_enter Tryd.func4, Tryd.ntmps4
  go_wp2_with fail
  go_at_call 15
  refine (HP0.out _).mono ?_
  rintro e w1 ⟨⟨p1, c1, rfl, hr1⟩, hb1⟩
  have hb2 := below_alloc w1 (.cells #[.int .i64 E, .int .i64 (A : Nat)] 31)
  have HB2 := Lib.hid (below_trans hb1 hb2)
  have HF2 := Lib.hid (heap_alloc_new w1 (.cells #[.int .i64 E, .int .i64 (A : Nat)] 31))
  have HR2 := Lib.hid (hr1.grw hb2)
  clear hb1 hb2 hr1 HP0 HB0
  go_upto_region 4 with fail
  generalize w1.alloc (.cells #[.int .i64 E, .int .i64 (A : Nat)] 31) = W2 at *
  generalize w1.heap.size = b1 at *
  go_wp2_with fail
  go_at_call 16
  refine (HP1.out _).mono ?_
  rintro e w3 ⟨⟨p3, c3, rfl, hr3⟩, hb3⟩
  have hb4 := below_alloc w3 (.cells #[.int .i64 E, .int .i64 (A : Nat)] 31)
  have HB4 := Lib.hid (below_trans HB2.out (below_trans hb3 hb4))
  have HF4 := Lib.hid (keepB HF2.out (below_trans hb3 hb4))
  have HG4 := Lib.hid (heap_alloc_new w3 (.cells #[.int .i64 E, .int .i64 (A : Nat)] 31))
  have HS4 := Lib.hid (HSm.out _ _ _ (HR2.out.grw (below_trans hb3 hb4)) (hr3.grw hb4))
  clear hb3 hb4 hr3 HP1 HB2 HF2 HR2 HSm
  go_upto_region 5 with fail
  generalize w3.alloc (.cells #[.int .i64 E, .int .i64 (A : Nat)] 31) = W4 at *
  generalize w3.heap.size = b3 at *
  obtain ⟨f0, f1, -, -⟩ := box_two HF4.out
  obtain ⟨k0, k1, -, -⟩ := box_two HG4.out
  go_wp2_with (first | (go_at_call 17; refine HS4.out.mono ?_; rintro e w5 ⟨rfl, hb5⟩; have HB5 := Lib.hid (below_trans HB4.out hb5); clear hb5) | (go_at_call 10; refine (HWk.out _ HB5.out).mono ?_; rintro e w9 ⟨rfl, hb9⟩; have HB9 := Lib.hid (below_trans HB5.out hb9); clear hb9))
  go_ret
  exact ⟨rfl, HB9.out⟩

/-! ### the row's step -/
theorem laidOut : laidOutB Tryd.prog = true := by kernel_rfl
set_option maxRecDepth 100000 in
theorem lifted (os : Os) (started : os.Started) (H : Type) (enc : TypeId × Value → H) :
    ReturnsInHanded {} Tryd.checked os 4 .any (fun w args => (Rows.editsParsesSpec.pre enc Tryd.prog Tryd.f4 [] false w args ∧ laidMetH Tryd.prog laidL w) ∧ sizedMet enc Tryd.prog Tryd.f4 (OpenSpec.ofChange Rows.editsParsesSpec) false w args) (Rows.editsParsesSpec.post enc Tryd.prog Tryd.f4 false true false false) := by
  refine lift own started (by kernel_rfl) Tryd.func4
    (ChangeSpec.witness_shaped (enc := enc) (C := Tryd.checked) (os := os) (X := fun w _ => laidMetH Tryd.prog laidL w) false (World.laidAll Tryd.prog os laidL) #[.string ByteArray.empty] 8 (World.laidAll_os _ _ _)
      (World.shaped_of_ZipB (by kernel_rfl) (by kernel_rfl)) (by kernel_rfl) (by kernel_rfl) (by kernel_rfl)
      (by rw [MakeChecks.laidMetH_plain _ _ _ (by kernel_rfl)]; exact laidMet_laidAll _ (by kernel_rfl) (by kernel_rfl))) ?_
  intro W base args ds gs before hval0 hW hwt hT
  have hval : ∀ (j : Nat) t v, Tryd.f4.params[j]? = some t → args[j]? = some v → Value.okWide Tryd.prog W .any base t v := hval0
  have hW' := hW
  obtain ⟨p, q, hA0, hV, rfl, hfz, hnd⟩ := hW
  have hA : DataW.TrodAll enc Tryd.prog W 0 (fun _ => true) true Tryd.f4.params.toList args.toList ds p := hA0
  rw [Tryd.params4] at hA hval hwt
  obtain ⟨v0, vs0, d0, ds0, p0, q0, hargs, rfl, rfl, h0, r0⟩ := trodAll_cons hA
  obtain ⟨rfl, rfl, rfl⟩ := trodAll_nil r0
  obtain rfl : args = #[v0] := by cases args; simp_all
  obtain ⟨rfl, rfl⟩ := trodVars_none hV
  have hwl : ∀ z, (z ∈ d0.weights Tryd.prog 9 → z ≤ reachBytes) := fun z => by
    have h := List.all_eq_true.1 hwt z
    simp only [decide_eq_true_eq] at h
    refine fun hz => h ?_
    all_goals
      simp only [List.cons_append, List.nil_append, List.toList_toArray, List.append_nil, DataW.weightsEach, List.mem_append]
      simp [hz]
  have k0 := h0
  have lt0 : ∀ x ∈ p0, x.block < W.heap.size := by obtain ⟨m, hm⟩ := k0; exact DataW.trod_lt m _ _ _ hm
  obtain ⟨a0, rfl, _, _, w0⟩ := open_string Tryd.underlying9 (hval 0 9 v0 rfl rfl) h0
  clear hA0 hval0
  refine (walk W a0 w0 hT).mono fun e W' ⟨he, bel⟩ => ?_
  subst he
  exact ⟨_, rfl, _, _, _, [], _, [], hW', (trodAll_cons_mk (shut_bool Tryd.underlying4 _) trodAll_mk0), (trodAll_cons_mk (Below.trod laidOut (by kernel_rfl) (of_decide_eq_true (by kernel_rfl)) k0 bel lt0) trodAll_mk0), rfl, bel.frame _, fun h => by cases h⟩

theorem over : Rows.editsParsesRow.holds Tryd.pinned (OpenSpec.ofChange Rows.editsParsesSpec) :=
  OpenClaim.holds_of_wide 4 Tryd.f4 rfl rfl rfl rfl rfl rfl rfl ⟨rfl, rfl, rfl, rfl, rfl⟩ rfl rfl rfl rfl rfl (by kernel_rfl) Tryd.func4 (by kernel_rfl)
    (of_decide_eq_true (by kernel_rfl)) (by unfold Func.isWrapper; first | (rw [if_pos (by decide +kernel)]; kernel_rfl) | (rw [if_neg (by decide +kernel)]; exact ⟨rfl, rfl⟩))
    (fun os started H enc _ => lifted os started H enc)

/-- The row's statement. -/
theorem proved : Rows.EditsParsesSaid := over
end Go.Proofs.YtgloihilnbjmeaaDoor.editsParses
namespace Go.Proofs.YtgloihilnbjmeaaDoor
theorem editsParses_holds : Rows.EditsParsesCardSaid :=
  Claim7.holds_tied_plain_at .later [] [.data, .data, .data] true (true, "b44c92bab4fb646ddc684cfa4b24097984c9645ac2fd34c5cae9cfe79b4f134b") false
    editsParses.proved (fun _ h => by cases h) (by kernel_rfl) (fun _ h => by cases h) editsParses_row_tie rfl ⟨rfl, rfl⟩ (by kernel_rfl) rfl
    (fun f fn hf hfn => by
      obtain rfl : f = 4 := Option.some.inj ((show Tryd.prog.funcNamed "leechbook/leechbooklaw13.EditsParses" = some 4 by kernel_rfl).symm.trans hf) |>.symm
      obtain rfl : fn = Tryd.f4 := (Option.some.inj (Tryd.func4.symm.trans hfn)).symm
      exact ⟨by kernel_rfl, fun j t ht => by
        rw [Tryd.params4] at ht
        have hm : t ∈ [9] := by simpa using Array.mem_of_getElem? ht
        have hall : ([9].all fun u => !Tryd.prog.wantsStandIn u) = true := by kernel_rfl
        exact (show Tryd.prog.wantsStandIn t = false by simpa using List.all_eq_true.1 hall t hm)⟩)
    (by kernel_rfl)
#print axioms editsParses_holds
end Go.Proofs.YtgloihilnbjmeaaDoor
