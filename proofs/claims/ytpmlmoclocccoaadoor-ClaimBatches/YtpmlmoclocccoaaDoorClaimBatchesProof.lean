/-
  For every batch: whether it may be, or what is wrong with it first, is what the reference says: the law returns true. The listed table is tied to the program's text.
-/
import Derived.Test.YtpmlmoclocccoaaDoorRows
import Derived.WalkKit
import Derived.ProofKit
import Derived.OpenShut
import Derived.ShutString
import Derived.Below
import Derived.Carry
import Derived.LaidMore
import Derived.Stop.Joined
import Derived.SevenTiedAt
import Derived.Deep.DeepCutAuto
import Derived.Test.YtpmlmoclocccoaaDoorLOne
import Derived.Test.YtpmlmoclocccoaaDoorLRBatch
import Derived.Test.YtpmlmoclocccoaaDoorLOpen
import Derived.Test.YtpmlmoclocccoaaDoorTie
import Derived.Test.YtpmlmoclocccoaaDoorCards
namespace Go.Proofs.YtpmlmoclocccoaaDoor.claimBatches
open Go.ChangeShapes Go.WideShapes Go.ChangeAt Go.RowKit
open Cm
open Go.ChangeMaps (open_string)
set_option linter.unusedVariables false
set_option linter.unusedSimpArgs false


theorem own : ownKnob Tryd.prog.godebug = none := by kernel_rfl

/-! ### the walk: the law returns true -/
set_option maxHeartbeats 2000000 in
theorem walk (w : World) (n0 : Int) (l0 : List Cl) (m0 : Value) (h0 : ClsAt All w m0 l0) (z0 : ∀ c ∈ l0, ClOk c) (hT : Da.Tab w) :
    Calls Tryd.prog 5 #[btv n0 m0] w fun e w' => e = .returned (.bool true) ∧ Below w.heap.size w w' := by
  have HLt := Lib.hid (light_any m0 l0 (w.alloc (boxb n0 m0)) (ClsAt.move h0 (Below.moves (below_alloc w _))) z0)
  have HK1 := Lib.hid fun W (hb : Below w.heap.size w W) => batch_any n0 m0 l0 W (ClsAt.move h0 (Below.moves hb)) z0 (tab_below hT hb)
  have HK2 := Lib.hid fun W (hb : Below w.heap.size w W) (hl : ∀ c ∈ l0, ClLight c) => rbatch_any n0 m0 l0 W (ClsAt.move h0 (Below.moves hb)) z0 (fun c hc => by have := (hl c hc).1; omega)
  have HWk := Lib.hid fun W (hb : Below w.heap.size w W) => works_any W (tab_below hT hb)
  have HSX : Hid (∀ W, Below (w.alloc (boxb n0 m0)).heap.size (w.alloc (boxb n0 m0)) W → (W.cell? ⟨w.heap.size, 0, none⟩ = some (.int .i64 n0) ∧ W.cell? ⟨w.heap.size, 1, none⟩ = some m0) ∧ Below w.heap.size w W) := fun W hb => by
    refine ⟨⟨?_, ?_⟩, below_trans (below_alloc w _) hb⟩
    · rw [hb.cell (p := ⟨w.heap.size, 0, none⟩) (by simp)]; simp
    · rw [hb.cell (p := ⟨w.heap.size, 1, none⟩) (by simp)]; simp
  generalize batchE n0 l0 = E at *
  obtain ⟨am, cm, rfl, -, -⟩ := ClsAt.form h0
  clear h0 z0 hT
  go_enter Tryd.func5, Tryd.ntmps5
  go_upto_if 6 with (go_at_call 9; refine (HLt.out).mono ?_; rintro e w1 ⟨⟨b, rfl, hln⟩, hb⟩; have HLN := Lib.hid hln; have HB1 := Lib.hid hb; obtain ⟨⟨p0, p1⟩, -⟩ := HSX.out _ hb; clear hln hb)
  cases b
  · go_wp2_with (go_at_call 10; refine (HWk.out _ (HSX.out _ HB1.out).2).mono ?_; rintro e w3 ⟨rfl, hb⟩; have HB3 := Lib.hid (below_trans (HSX.out _ HB1.out).2 hb); clear hb)
    go_ret
    exact ⟨rfl, HB3.out⟩
  have HBd : Hid (Below (w.alloc (boxb n0 (.slice am l0.length cm))).heap.size (w.alloc (boxb n0 (.slice am l0.length cm))) w1.drew) := Below.drew HB1.out
  have HK3 := Lib.hid fun W hb => HK2.out W hb (HLN.out rfl)
  clear HLN HK2 HLt
  go_wp2_with fail
  go_region_held3 (fun W => W.cell? ⟨w.heap.size, 0, none⟩ = some (.int .i64 n0) ∧ W.cell? ⟨w.heap.size, 1, none⟩ = some (.slice am l0.length cm)) (go_keep) (first | (go_at_call 19; refine (HK1.out _ (HSX.out _ HBd.out).2).mono ?_; rintro e w2 ⟨rfl, hb⟩; have HB2 := Lib.hid (below_trans HBd.out hb); obtain ⟨q0, q1⟩ := (HSX.out _ HB2.out).1; clear hb) | (go_at_call 20; refine (HK3.out _ (HSX.out _ HB2.out).2).mono ?_; rintro e w3 ⟨rfl, hb⟩; have HB3 := Lib.hid (below_trans HB2.out hb); obtain ⟨r0, r1⟩ := (HSX.out _ HB3.out).1; clear hb) | (go_at_call 10; refine (HWk.out _ (HSX.out _ HB3.out).2).mono ?_; rintro e w4 ⟨rfl, hb⟩; have HB4 := Lib.hid (below_trans HB3.out hb); obtain ⟨s0, s1⟩ := (HSX.out _ HB4.out).1; clear hb))
  all_goals
    go_wp2
    go_ret
    exact ⟨rfl, (HSX.out _ HB4.out).2⟩

/-! ### the row's step -/
theorem laidOut : laidOutB Tryd.prog = true := by kernel_rfl
set_option maxRecDepth 100000 in
theorem lifted (os : Os) (started : os.Started) (H : Type) (enc : TypeId × Value → H) :
    ReturnsInHanded {} Tryd.checked os 5 .any (fun w args => (Rows.claimBatchesSpec.pre enc Tryd.prog Tryd.f5 [] false w args ∧ laidMetH Tryd.prog laidL w) ∧ sizedMet enc Tryd.prog Tryd.f5 (OpenSpec.ofChange Rows.claimBatchesSpec) false w args) (Rows.claimBatchesSpec.post enc Tryd.prog Tryd.f5 false true false false) := by
  refine lift own started (by kernel_rfl) Tryd.func5
    (ChangeSpec.witness_shaped (enc := enc) (C := Tryd.checked) (os := os) (X := fun w _ => laidMetH Tryd.prog laidL w) false (World.laidAll Tryd.prog os laidL) #[.agg #[.int .i64 0, .slice none 0 0]] 8 (World.laidAll_os _ _ _)
      (World.shaped_of_ZipB (by kernel_rfl) (by kernel_rfl)) (by kernel_rfl) (by kernel_rfl) (by kernel_rfl)
      (by rw [MakeChecks.laidMetH_plain _ _ _ (by kernel_rfl)]; exact laidMet_laidAll _ (by kernel_rfl) (by kernel_rfl))) ?_
  intro W base args ds gs before hval0 hW hwt hT
  have hval : ∀ (j : Nat) t v, Tryd.f5.params[j]? = some t → args[j]? = some v → Value.okWide Tryd.prog W .any base t v := hval0
  have hW' := hW
  obtain ⟨p, q, hA0, hV, rfl, hfz, hnd⟩ := hW
  have hA : DataW.TrodAll enc Tryd.prog W 0 (fun _ => true) true Tryd.f5.params.toList args.toList ds p := hA0
  rw [Tryd.params5] at hA hval hwt
  obtain ⟨v0, vs0, d0, ds0, p0, q0, hargs, rfl, rfl, h0, r0⟩ := trodAll_cons hA
  obtain ⟨rfl, rfl, rfl⟩ := trodAll_nil r0
  obtain rfl : args = #[v0] := by cases args; simp_all
  obtain ⟨rfl, rfl⟩ := trodVars_none hV
  have hwl : ∀ z, (z ∈ d0.weights Tryd.prog 40 → z ≤ reachBytes) := fun z => by
    have h := List.all_eq_true.1 hwt z
    simp only [decide_eq_true_eq] at h
    refine fun hz => h ?_
    all_goals
      simp only [List.cons_append, List.nil_append, List.toList_toArray, List.append_nil, DataW.weightsEach, List.mem_append]
      simp [hz]
  have k0 := h0
  have lt0 : ∀ x ∈ p0, x.block < W.heap.size := by obtain ⟨m, hm⟩ := k0; exact DataW.trod_lt m _ _ _ hm
  obtain ⟨n0, l0, m0, rfl, g0, z0⟩ := open_batch (hval 0 40 v0 rfl rfl) h0 (fun z hz => hwl z hz)
  clear hA0 hval0
  refine (walk W n0 l0 m0 g0 z0 hT).mono fun e W' ⟨he, bel⟩ => ?_
  subst he
  exact ⟨_, rfl, _, _, _, [], _, [], hW', (trodAll_cons_mk (shut_bool Tryd.underlying4 _) trodAll_mk0), (trodAll_cons_mk (Below.trod laidOut (by kernel_rfl) (of_decide_eq_true (by kernel_rfl)) k0 bel lt0) trodAll_mk0), rfl, bel.frame _, fun h => by cases h⟩

theorem over : Rows.claimBatchesRow.holds Tryd.pinned (OpenSpec.ofChange Rows.claimBatchesSpec) :=
  OpenClaim.holds_of_wide 5 Tryd.f5 rfl rfl rfl rfl rfl rfl rfl ⟨rfl, rfl, rfl, rfl, rfl⟩ rfl rfl rfl rfl rfl (by kernel_rfl) Tryd.func5 (by kernel_rfl)
    (of_decide_eq_true (by kernel_rfl)) (by unfold Func.isWrapper; first | (rw [if_pos (by decide +kernel)]; kernel_rfl) | (rw [if_neg (by decide +kernel)]; exact ⟨rfl, rfl⟩))
    (fun os started H enc _ => lifted os started H enc)

/-- The row's statement. -/
theorem proved : Rows.ClaimBatchesSaid := over
end Go.Proofs.YtpmlmoclocccoaaDoor.claimBatches
namespace Go.Proofs.YtpmlmoclocccoaaDoor
theorem claimBatches_holds : Rows.ClaimBatchesCardSaid :=
  Claim7.holds_tied_plain_at .later [] [.data] true (true, "e0c6d56abecee78b69bbdfe67875128316fb25898fd5cc9334db5ddfe1891555") false
    claimBatches.proved (fun _ h => by cases h) (by kernel_rfl) (fun _ h => by cases h) claimBatches_row_tie rfl ⟨rfl, rfl⟩ (by kernel_rfl) rfl
    (fun f fn hf hfn => by
      obtain rfl : f = 5 := Option.some.inj ((show Tryd.prog.funcNamed "leechbook/leechbooklaw07.ClaimBatches" = some 5 by kernel_rfl).symm.trans hf) |>.symm
      obtain rfl : fn = Tryd.f5 := (Option.some.inj (Tryd.func5.symm.trans hfn)).symm
      exact ⟨by kernel_rfl, fun j t ht => by
        rw [Tryd.params5] at ht
        have hm : t ∈ [40] := by simpa using Array.mem_of_getElem? ht
        have hall : ([40].all fun u => !Tryd.prog.wantsStandIn u) = true := by kernel_rfl
        exact (show Tryd.prog.wantsStandIn t = false by simpa using List.all_eq_true.1 hall t hm)⟩)
    (by kernel_rfl)
#print axioms claimBatches_holds
end Go.Proofs.YtpmlmoclocccoaaDoor
