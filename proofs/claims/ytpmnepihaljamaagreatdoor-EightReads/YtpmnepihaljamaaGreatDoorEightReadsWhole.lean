/-
  EightReads holds for every text: which batch it is, or what is wrong with it first, is what the reference says.
-/
import Derived.WalkKit
import Derived.ProofKit
import Derived.OpenShut
import Derived.ShutString
import Derived.Below
import Derived.Carry
import Derived.LaidMore
import Derived.Stop.Joined
import Derived.SevenTiedAt
import Derived.Deep.DeepCutAuto
import Derived.Test.YtpmnepihaljamaaGreatDoorRows
import Derived.Test.YtpmnepihaljamaaGreatDoorTie
import Derived.Test.YtpmnepihaljamaaGreatDoorCards
import Derived.Test.YtpmnepihaljamaaGreatDoorM1
import Derived.Test.YtpmnepihaljamaaGreatDoorM2
import Derived.Test.YtpmnepihaljamaaGreatDoorM3
import Derived.Test.YtpmnepihaljamaaGreatDoorM4
import Derived.Test.YtpmnepihaljamaaGreatDoorM5
import Derived.Test.YtpmnepihaljamaaGreatDoorM6
import Derived.Test.YtpmnepihaljamaaGreatDoorM7
import Derived.Test.YtpmnepihaljamaaGreatDoorM8
import Derived.Test.YtpmnepihaljamaaGreatDoorM9
import Derived.Test.YtpmnepihaljamaaGreatDoorM10
import Derived.Test.YtpmnepihaljamaaGreatDoorM11
import Derived.Test.YtpmnepihaljamaaGreatDoorM12
import Derived.Test.YtpmnepihaljamaaGreatDoorM13
import Derived.Test.YtpmnepihaljamaaGreatDoorM14
import Derived.Test.YtpmnepihaljamaaGreatDoorM15
import Derived.Test.YtpmnepihaljamaaGreatDoorM16
import Derived.Test.YtpmnepihaljamaaGreatDoorM17
import Derived.Test.YtpmnepihaljamaaGreatDoorM18
import Derived.Test.YtpmnepihaljamaaGreatDoorM19
import Derived.Test.YtpmnepihaljamaaGreatDoorM20
import Derived.Test.YtpmnepihaljamaaGreatDoorM21
import Derived.Test.YtpmnepihaljamaaGreatDoorM22
import Derived.Test.YtpmnepihaljamaaGreatDoorM23
import Derived.Test.YtpmnepihaljamaaGreatDoorM24
import Derived.Test.YtpmnepihaljamaaGreatDoorM25
import Derived.Test.YtpmnepihaljamaaGreatDoorM26
import Derived.Test.YtpmnepihaljamaaGreatDoorM27
import Derived.Test.YtpmnepihaljamaaGreatDoorM28
import Derived.Test.YtpmnepihaljamaaGreatDoorM29
import Derived.Test.YtpmnepihaljamaaGreatDoorM30
import Derived.Test.YtpmnepihaljamaaGreatDoorM31
import Derived.Test.YtpmnepihaljamaaGreatDoorM32
import Derived.Test.YtpmnepihaljamaaGreatDoorM33
import Derived.Test.YtpmnepihaljamaaGreatDoorM34
import Derived.Test.YtpmnepihaljamaaGreatDoorM35
import Derived.Test.YtpmnepihaljamaaGreatDoorM36
import Derived.Test.YtpmnepihaljamaaGreatDoorM37
import Derived.Test.YtpmnepihaljamaaGreatDoorM38
import Derived.Test.YtpmnepihaljamaaGreatDoorM39
import Derived.Test.YtpmnepihaljamaaGreatDoorM40
import Derived.Test.YtpmnepihaljamaaGreatDoorM41
import Derived.Test.YtpmnepihaljamaaGreatDoorM42
import Derived.Test.YtpmnepihaljamaaGreatDoorM43
namespace Go.Proofs.YtpmnepihaljamaaGreatDoor.eightReads
open Go.ChangeShapes Go.WideShapes Go.ChangeAt Go.RowKit
open Cm Eo
open Go.ChangeMaps (open_string)
set_option linter.unusedVariables false
set_option linter.unusedSimpArgs false


theorem own : ownKnob Tryz.prog.godebug = none := by kernel_rfl

/-! ### the walk: the law returns true -/
set_option maxHeartbeats 8000000 in
theorem walk (w : World) (a0 : ByteArray) (w0 : a0.size ≤ maxLen) (hT : Tab w) (hD : Da.Tab w) :
    Calls Tryz.prog 4 #[.string a0] w fun e w' => e = .returned (.bool true) ∧ Below w.heap.size w w' := by
  have HWK := Lib.hid fun W (hW : Below w.heap.size w W) => works_any W (tab_grw hT hW) (Cm.tab_below hD hW)
  by_cases hl : 20000 < a0.size
  · have hl' : (20000 : Int) < (a0.size : Int) := by omega
    have HB0 := Lib.hid (Below.refl w.heap.size w)
    clear hl
    go_enter Tryz.func4, Tryz.ntmps4
    go_wp2_with (go_at_call 10; refine (HWK.out _ HB0.out).mono ?_; rintro x w9 ⟨rfl, hb9⟩; have HB9 := Lib.hid (below_trans HB0.out hb9); clear hb9)
    go_ret
    exact ⟨rfl, HB9.out⟩
  have hl' : ¬ (20000 : Int) < (a0.size : Int) := by omega
  have HRd := Lib.hid (eread_any a0 w hT hD w0)
  have HRR := Lib.hid fun W => rread8_any a0 W w0
  obtain ⟨⟨da, db, dc⟩, hDD⟩ : ∃ DD, Et.rD a0.data.toList = DD := ⟨_, rfl⟩
  rw [hDD] at HRd HRR
  generalize Et.rE a0.data.toList = EE at *
  generalize Et.rN a0.data.toList = N at *
  generalize Et.rV a0.data.toList = L at *
  have HR1 : Hid (Calls Tryz.prog 13 #[.string a0] w fun x w' => (∃ u, x = .returned (.tuple #[.agg #[.int .u8 da.toNat, .int .u8 db.toNat, .int .u8 dc.toNat], .agg #[.int .i64 N, u], .int .i64 EE]) ∧ ClsAt (fun b => w.heap.size ≤ b) w' u L) ∧ Below w.heap.size w w') := HRd.out
  have HR2 : Hid (∀ W, Calls Tryz.prog 14 #[.string a0] W fun x w' => (∃ u, x = .returned (.tuple #[.agg #[.int .u8 da.toNat, .int .u8 db.toNat, .int .u8 dc.toNat], .agg #[.int .i64 N, u], .int .i64 EE]) ∧ ClsAt All w' u L) ∧ Below W.heap.size W w') := HRR.out
  clear hT hD hl hDD HRd HRR
  go_enter Tryz.func4, Tryz.ntmps4
  go_wp2_with fail
  go_at_call 13
  refine HR1.out.mono ?_
  rintro x w1 ⟨⟨u, rfl, hu⟩, hb1⟩
  have HU1 := Lib.hid hu
  obtain ⟨ua, uc, rfl, -, -, -⟩ := hu
  have hb2 := below_trans (below_alloc w1 (.cells #[.int .u8 da.toNat, .int .u8 db.toNat, .int .u8 dc.toNat] 23)) (below_alloc _ (.cells #[.int .i64 N, .slice ua L.length uc] 26))
  have HB2 := Lib.hid (below_trans hb1 hb2)
  have HP2 := Lib.hid (keepB (heap_alloc_new w1 (.cells #[.int .u8 da.toNat, .int .u8 db.toNat, .int .u8 dc.toNat] 23)) (below_alloc (w1.alloc (.cells #[.int .u8 da.toNat, .int .u8 db.toNat, .int .u8 dc.toNat] 23)) (.cells #[.int .i64 N, .slice ua L.length uc] 26)))
  have HQ2 := Lib.hid (new_at' (w1.alloc (.cells #[.int .u8 da.toNat, .int .u8 db.toNat, .int .u8 dc.toNat] 23)) (.cells #[.int .i64 N, .slice ua L.length uc] 26) (w1.heap.size + 1) (by simp))
  have HU2 := Lib.hid (ClsAt.move (K' := All) HU1.out (Moves.trans (moves_weak _ fun _ _ _ => trivial) (Below.moves hb2)))
  clear hb1 hb2 HU1
  go_upto_region 4 with fail
  generalize (w1.alloc (.cells #[.int .u8 da.toNat, .int .u8 db.toNat, .int .u8 dc.toNat] 23)).alloc (.cells #[.int .i64 N, .slice ua L.length uc] 26) = w2 at *
  go_wp2_with fail
  go_at_call 14
  refine (HR2.out _).mono ?_
  rintro x w3 ⟨⟨v, rfl, hv⟩, hb3⟩
  have HV3 := Lib.hid hv
  obtain ⟨va, vc, rfl, -, -, -⟩ := hv
  have hb4 := below_trans (below_alloc w3 (.cells #[.int .u8 da.toNat, .int .u8 db.toNat, .int .u8 dc.toNat] 23)) (below_alloc _ (.cells #[.int .i64 N, .slice va L.length vc] 26))
  have hb34 := below_trans hb3 hb4
  have HB4 := Lib.hid (below_trans HB2.out hb34)
  have HP4 := Lib.hid (keepB HP2.out hb34)
  have HQ4 := Lib.hid (keepB HQ2.out hb34)
  have HU4 := Lib.hid (ClsAt.move HU2.out (Below.moves hb34))
  have HR4 := Lib.hid (keepB (heap_alloc_new w3 (.cells #[.int .u8 da.toNat, .int .u8 db.toNat, .int .u8 dc.toNat] 23)) (below_alloc (w3.alloc (.cells #[.int .u8 da.toNat, .int .u8 db.toNat, .int .u8 dc.toNat] 23)) (.cells #[.int .i64 N, .slice va L.length vc] 26)))
  have HS4 := Lib.hid (new_at' (w3.alloc (.cells #[.int .u8 da.toNat, .int .u8 db.toNat, .int .u8 dc.toNat] 23)) (.cells #[.int .i64 N, .slice va L.length vc] 26) (w3.heap.size + 1) (by simp))
  have HV4 := Lib.hid (ClsAt.move HV3.out (Below.moves hb4))
  clear hb3 hb4 hb34 HV3
  go_upto_region 5 with fail
  generalize (w3.alloc (.cells #[.int .u8 da.toNat, .int .u8 db.toNat, .int .u8 dc.toNat] 23)).alloc (.cells #[.int .i64 N, .slice va L.length vc] 26) = w4 at *
  obtain ⟨p0, p1, p2, -⟩ := cells3 HP4.out
  obtain ⟨q0, q1, -⟩ := cells2 HQ4.out
  obtain ⟨r0, r1, r2, -⟩ := cells3 HR4.out
  obtain ⟨s0, s1, -⟩ := cells2 HS4.out
  have HSm := Lib.hid (bsame_eq N _ _ L w4 HU4.out HV4.out)
  go_wp2_with (first | (go_at_call 15; refine HSm.out.mono ?_; rintro x wt ⟨rfl, hbt⟩; have HBt := Lib.hid (below_trans HB4.out hbt); clear hbt) | (go_at_call 10; refine (HWK.out _ HBt.out).mono ?_; rintro x w9 ⟨rfl, hb9⟩; have HB9 := Lib.hid (below_trans HBt.out hb9); clear hb9))
  go_ret
  exact ⟨rfl, HB9.out⟩

/-! ### the row's step -/
theorem laidOut : laidOutB Tryz.prog = true := by kernel_rfl
set_option maxRecDepth 100000 in
theorem lifted (os : Os) (started : os.Started) (H : Type) (enc : TypeId × Value → H) :
    ReturnsInHanded {} Tryz.checked os 4 .any (fun w args => (Rows.eightReadsSpec.pre enc Tryz.prog Tryz.f4 [] false w args ∧ laidMetH Tryz.prog laidL w) ∧ sizedMet enc Tryz.prog Tryz.f4 (OpenSpec.ofChange Rows.eightReadsSpec) false w args) (Rows.eightReadsSpec.post enc Tryz.prog Tryz.f4 false true false false) := by
  refine lift own started (by kernel_rfl) Tryz.func4
    (ChangeSpec.witness_shaped (enc := enc) (C := Tryz.checked) (os := os) (X := fun w _ => laidMetH Tryz.prog laidL w) false (World.laidAll Tryz.prog os laidL) #[.string ByteArray.empty] 8 (World.laidAll_os _ _ _)
      (World.shaped_of_ZipB (by kernel_rfl) (by kernel_rfl)) (by kernel_rfl) (by kernel_rfl) (by kernel_rfl)
      (by rw [MakeChecks.laidMetH_plain _ _ _ (by kernel_rfl)]; exact laidMet_laidAll _ (by kernel_rfl) (by kernel_rfl))) ?_
  intro W base args ds gs before hval0 hW hwt hT
  have hval : ∀ (j : Nat) t v, Tryz.f4.params[j]? = some t → args[j]? = some v → Value.okWide Tryz.prog W .any base t v := hval0
  have hW' := hW
  obtain ⟨p, q, hA0, hV, rfl, hfz, hnd⟩ := hW
  have hA : DataW.TrodAll enc Tryz.prog W 0 (fun _ => true) true Tryz.f4.params.toList args.toList ds p := hA0
  rw [Tryz.params4] at hA hval hwt
  obtain ⟨v0, vs0, d0, ds0, p0, q0, hargs, rfl, rfl, h0, r0⟩ := trodAll_cons hA
  obtain ⟨rfl, rfl, rfl⟩ := trodAll_nil r0
  obtain rfl : args = #[v0] := by cases args; simp_all
  obtain ⟨rfl, rfl⟩ := trodVars_none hV
  have hwl : ∀ z, (z ∈ d0.weights Tryz.prog 9 → z ≤ reachBytes) := fun z => by
    have h := List.all_eq_true.1 hwt z
    simp only [decide_eq_true_eq] at h
    refine fun hz => h ?_
    all_goals
      simp only [List.cons_append, List.nil_append, List.toList_toArray, List.append_nil, DataW.weightsEach, List.mem_append]
      simp [hz]
  have k0 := h0
  have lt0 : ∀ x ∈ p0, x.block < W.heap.size := by obtain ⟨m, hm⟩ := k0; exact DataW.trod_lt m _ _ _ hm
  obtain ⟨a0, rfl, _, _, w0⟩ := open_string Tryz.underlying9 (hval 0 9 v0 rfl rfl) h0
  clear hA0 hval0
  refine (walk W a0 w0 hT.1 hT.2).mono fun e W' ⟨he, bel⟩ => ?_
  subst he
  exact ⟨_, rfl, _, _, _, [], _, [], hW', (trodAll_cons_mk (shut_bool Tryz.underlying4 _) trodAll_mk0), (trodAll_cons_mk (Below.trod laidOut (by kernel_rfl) (of_decide_eq_true (by kernel_rfl)) k0 bel lt0) trodAll_mk0), rfl, bel.frame _, fun h => by cases h⟩

theorem over : Rows.eightReadsRow.holds Tryz.pinned (OpenSpec.ofChange Rows.eightReadsSpec) :=
  OpenClaim.holds_of_wide 4 Tryz.f4 rfl rfl rfl rfl rfl rfl rfl ⟨rfl, rfl, rfl, rfl, rfl⟩ rfl rfl rfl rfl rfl (by kernel_rfl) Tryz.func4 (by kernel_rfl)
    (of_decide_eq_true (by kernel_rfl)) (by unfold Func.isWrapper; first | (rw [if_pos (by decide +kernel)]; kernel_rfl) | (rw [if_neg (by decide +kernel)]; exact ⟨rfl, rfl⟩))
    (fun os started H enc _ => lifted os started H enc)

/-- The row's statement. -/
theorem proved : Rows.EightReadsSaid := over
end Go.Proofs.YtpmnepihaljamaaGreatDoor.eightReads
namespace Go.Proofs.YtpmnepihaljamaaGreatDoor
theorem eightReads_holds : Rows.EightReadsCardSaid :=
  Claim7.holds_tied_plain_at .later [] [.data, .data, .data, .data, .data, .pinned] true (true, "122e963fb66ddac7511cf8e03ec72daa6168b7b23aebada0a115fea26b40cd7f") false
    eightReads.proved (fun _ h => by cases h) (by kernel_rfl) (fun _ h => by cases h) eightReads_row_tie rfl ⟨rfl, rfl⟩ (by kernel_rfl) rfl
    (fun f fn hf hfn => by
      obtain rfl : f = 4 := Option.some.inj ((show Tryz.prog.funcNamed "leechbook/leechbooklaw08.EightReads" = some 4 by kernel_rfl).symm.trans hf) |>.symm
      obtain rfl : fn = Tryz.f4 := (Option.some.inj (Tryz.func4.symm.trans hfn)).symm
      exact ⟨by kernel_rfl, fun j t ht => by
        rw [Tryz.params4] at ht
        have hm : t ∈ [9] := by simpa using Array.mem_of_getElem? ht
        have hall : ([9].all fun u => !Tryz.prog.wantsStandIn u) = true := by kernel_rfl
        exact (show Tryz.prog.wantsStandIn t = false by simpa using List.all_eq_true.1 hall t hm)⟩)
    (by kernel_rfl)
#print axioms eightReads_holds
end Go.Proofs.YtpmnepihaljamaaGreatDoor
