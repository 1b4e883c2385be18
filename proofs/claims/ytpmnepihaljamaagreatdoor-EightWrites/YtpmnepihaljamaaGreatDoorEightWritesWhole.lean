/-
  EightWrites holds for every signs and every batch: the batch as a text, or what is wrong with it, is what the reference says.
-/
import Derived.WalkKit
import Derived.ProofKit
import Derived.OpenShut
import Derived.ShutString
import Derived.Below
import Derived.Carry
import Derived.LaidMore
import Derived.Stop.Joined
import Derived.SevenTiedAt
import Derived.Deep.DeepCutAuto
import Derived.Test.YtpmnepihaljamaaGreatDoorRows
import Derived.Test.YtpmnepihaljamaaGreatDoorTie
import Derived.Test.YtpmnepihaljamaaGreatDoorCards
import Derived.Test.YtpmnepihaljamaaGreatDoorM1
import Derived.Test.YtpmnepihaljamaaGreatDoorM2
import Derived.Test.YtpmnepihaljamaaGreatDoorM3
import Derived.Test.YtpmnepihaljamaaGreatDoorM4
import Derived.Test.YtpmnepihaljamaaGreatDoorM5
import Derived.Test.YtpmnepihaljamaaGreatDoorM6
import Derived.Test.YtpmnepihaljamaaGreatDoorM7
import Derived.Test.YtpmnepihaljamaaGreatDoorM8
import Derived.Test.YtpmnepihaljamaaGreatDoorM9
import Derived.Test.YtpmnepihaljamaaGreatDoorM10
import Derived.Test.YtpmnepihaljamaaGreatDoorM11
import Derived.Test.YtpmnepihaljamaaGreatDoorM12
import Derived.Test.YtpmnepihaljamaaGreatDoorM13
import Derived.Test.YtpmnepihaljamaaGreatDoorM14
import Derived.Test.YtpmnepihaljamaaGreatDoorM15
import Derived.Test.YtpmnepihaljamaaGreatDoorM16
import Derived.Test.YtpmnepihaljamaaGreatDoorM17
import Derived.Test.YtpmnepihaljamaaGreatDoorM18
import Derived.Test.YtpmnepihaljamaaGreatDoorM19
import Derived.Test.YtpmnepihaljamaaGreatDoorM20
import Derived.Test.YtpmnepihaljamaaGreatDoorM21
import Derived.Test.YtpmnepihaljamaaGreatDoorM22
import Derived.Test.YtpmnepihaljamaaGreatDoorM23
import Derived.Test.YtpmnepihaljamaaGreatDoorM24
import Derived.Test.YtpmnepihaljamaaGreatDoorM25
import Derived.Test.YtpmnepihaljamaaGreatDoorM26
import Derived.Test.YtpmnepihaljamaaGreatDoorM27
import Derived.Test.YtpmnepihaljamaaGreatDoorM28
import Derived.Test.YtpmnepihaljamaaGreatDoorM29
import Derived.Test.YtpmnepihaljamaaGreatDoorM30
import Derived.Test.YtpmnepihaljamaaGreatDoorM31
import Derived.Test.YtpmnepihaljamaaGreatDoorM32
import Derived.Test.YtpmnepihaljamaaGreatDoorM33
import Derived.Test.YtpmnepihaljamaaGreatDoorM34
import Derived.Test.YtpmnepihaljamaaGreatDoorM35
import Derived.Test.YtpmnepihaljamaaGreatDoorM36
import Derived.Test.YtpmnepihaljamaaGreatDoorM37
import Derived.Test.YtpmnepihaljamaaGreatDoorM38
import Derived.Test.YtpmnepihaljamaaGreatDoorM39
import Derived.Test.YtpmnepihaljamaaGreatDoorM40
import Derived.Test.YtpmnepihaljamaaGreatDoorM41
import Derived.Test.YtpmnepihaljamaaGreatDoorM42
import Derived.Test.YtpmnepihaljamaaGreatDoorM43
import Derived.Test.YtpmnepihaljamaaGreatDoorM44
import Derived.Test.YtpmnepihaljamaaGreatDoorM45
import Derived.Test.YtpmnepihaljamaaGreatDoorM46
import Derived.Test.YtpmnepihaljamaaGreatDoorM47
namespace Go.Proofs.YtpmnepihaljamaaGreatDoor.eightWrites
open Go.ChangeShapes Go.WideShapes Go.ChangeAt Go.RowKit
open Cm Eo
open Go.ChangeMaps (open_string)
set_option linter.unusedVariables false
set_option linter.unusedSimpArgs false


theorem own : ownKnob Tryz.prog.godebug = none := by kernel_rfl

/-! ### the walk: the law returns true -/
set_option maxHeartbeats 8000000 in
theorem walk (w : World) (e0 p0 s0 : UInt8) (n1 : Int) (l1 : List Cl) (m1 : Value) (h1 : ClsAt All w m1 l1) (z1 : ∀ c ∈ l1, ClOk c) (hT : Tab w) (hD : Da.Tab w) :
    Calls Tryz.prog 3 #[dv e0 p0 s0, btv n1 m1] w fun e w' => e = .returned (.bool true) ∧ Below w.heap.size w w' := by
  have HWK := Lib.hid fun W (hW : Below w.heap.size w W) => works_any W (tab_grw hT hW) (Cm.tab_below hD hW)
  have HLi := Lib.hid fun W (hW : Below w.heap.size w W) => light_any n1 m1 l1 W (ClsAt.move h1 (Below.moves hW)) z1
  have HCl := Lib.hid fun W (hW : Below w.heap.size w W) => ClsAt.move h1 (Below.moves hW)
  have HTb := Lib.hid (And.intro hT hD)
  have HZ := Lib.hid z1
  have hb0 := below_trans (below_alloc w (.cells #[.int .u8 e0.toNat, .int .u8 p0.toNat, .int .u8 s0.toNat] 23)) (below_alloc _ (.cells #[.int .i64 n1, m1] 26))
  have HB0 := Lib.hid hb0
  have HX0 := Lib.hid (keepB (heap_alloc_new w (.cells #[.int .u8 e0.toNat, .int .u8 p0.toNat, .int .u8 s0.toNat] 23)) (below_alloc (w.alloc (.cells #[.int .u8 e0.toNat, .int .u8 p0.toNat, .int .u8 s0.toNat] 23)) (.cells #[.int .i64 n1, m1] 26)))
  have HY0 := Lib.hid (new_at' (w.alloc (.cells #[.int .u8 e0.toNat, .int .u8 p0.toNat, .int .u8 s0.toNat] 23)) (.cells #[.int .i64 n1, m1] 26) (w.heap.size + 1) (by simp))
  obtain ⟨ma, mc, rfl, f1, f2⟩ := ClsAt.form h1
  clear h1 z1 hT hD hb0
  go_enter Tryz.func3, Tryz.ntmps3
  go_upto_region 1 with fail
  generalize (w.alloc (.cells #[.int .u8 e0.toNat, .int .u8 p0.toNat, .int .u8 s0.toNat] 23)).alloc (.cells #[.int .i64 n1, .slice ma l1.length mc] 26) = w0 at *
  obtain ⟨d0, d1, d2, -⟩ := cells3 HX0.out
  obtain ⟨b0, b1, -⟩ := cells2 HY0.out
  go_wp2_with fail
  go_at_call 9
  refine (HLi.out _ HB0.out).mono ?_
  rintro x w1 ⟨⟨L, rfl, hL⟩, hb1⟩
  have HB1 := Lib.hid (below_trans HB0.out hb1)
  have HX1 := Lib.hid (keepB HX0.out hb1)
  have HY1 := Lib.hid (keepB HY0.out hb1)
  clear hb1 d0 d1 d2 b0 b1
  cases L
  · go_wp2_with (go_at_call 10; refine (HWK.out _ HB1.out).mono ?_; rintro x w9 ⟨rfl, hb9⟩; have HB9 := Lib.hid (below_trans HB1.out hb9); clear hb9)
    go_ret
    exact ⟨rfl, HB9.out⟩
  obtain ⟨hl1, hl2⟩ := hL rfl
  have HSg : Hid (batchE n1 l1 = 0 → ln (Et.segs l1) ≤ 90000 ∧ (Et.segs l1).length ≤ 100000) := fun hb => Et.segs_light n1 l1 hb hl2
  have HW := Lib.hid fun W (hW : Below w.heap.size w W) => ewrite_any e0 p0 s0 n1 _ l1 W (HCl.out W hW) HZ.out (tab_grw HTb.out.1 hW) (Cm.tab_below HTb.out.2 hW) HSg.out
  have HR := Lib.hid fun W (hW : Below w.heap.size w W) => rwt_any e0 p0 s0 n1 _ l1 W (HCl.out W hW) HZ.out (fun c hc => Nat.le_trans (hl1 c hc).1 (by omega)) HSg.out
  clear hL hl1 hl2 HSg
  generalize Et.wtE e0 p0 s0 n1 l1 = E0 at *
  generalize mk (Et.wtV e0 p0 s0 n1 l1) = T0 at *
  obtain ⟨d0, d1, d2, -⟩ := cells3 HX1.out
  obtain ⟨b0, b1, -⟩ := cells2 HY1.out
  go_wp2_with fail
  go_at_call 11
  refine (HW.out _ HB1.out).mono ?_
  rintro x w2 ⟨rfl, hb2⟩
  have HB2 := Lib.hid (below_trans HB1.out hb2)
  have HX2 := Lib.hid (keepB HX1.out hb2)
  have HY2 := Lib.hid (keepB HY1.out hb2)
  clear hb2 d0 d1 d2 b0 b1
  obtain ⟨d0, d1, d2, -⟩ := cells3 HX2.out
  obtain ⟨b0, b1, -⟩ := cells2 HY2.out
  go_wp2_with fail
  go_at_call 12
  refine (HR.out _ HB2.out).mono ?_
  rintro x w3 ⟨rfl, hb3⟩
  have HB3 := Lib.hid (below_trans HB2.out hb3)
  clear hb3 d0 d1 d2 b0 b1
  go_wp2_with (go_at_call 10; refine (HWK.out _ HB3.out).mono ?_; rintro x w9 ⟨rfl, hb9⟩; have HB9 := Lib.hid (below_trans HB3.out hb9); clear hb9)
  go_ret
  exact ⟨rfl, HB9.out⟩

/-! ### the row's step -/
theorem laidOut : laidOutB Tryz.prog = true := by kernel_rfl
set_option maxRecDepth 100000 in
theorem lifted (os : Os) (started : os.Started) (H : Type) (enc : TypeId × Value → H) :
    ReturnsInHanded {} Tryz.checked os 3 .any (fun w args => (Rows.eightWritesSpec.pre enc Tryz.prog Tryz.f3 [] false w args ∧ laidMetH Tryz.prog laidL w) ∧ sizedMet enc Tryz.prog Tryz.f3 (OpenSpec.ofChange Rows.eightWritesSpec) false w args) (Rows.eightWritesSpec.post enc Tryz.prog Tryz.f3 false true false false) := by
  refine lift own started (by kernel_rfl) Tryz.func3
    (ChangeSpec.witness_shaped (enc := enc) (C := Tryz.checked) (os := os) (X := fun w _ => laidMetH Tryz.prog laidL w) false (World.laidAll Tryz.prog os laidL) #[.agg #[.int .u8 0, .int .u8 0, .int .u8 0], .agg #[.int .i64 0, .slice none 0 0]] 8 (World.laidAll_os _ _ _)
      (World.shaped_of_ZipB (by kernel_rfl) (by kernel_rfl)) (by kernel_rfl) (by kernel_rfl) (by kernel_rfl)
      (by rw [MakeChecks.laidMetH_plain _ _ _ (by kernel_rfl)]; exact laidMet_laidAll _ (by kernel_rfl) (by kernel_rfl))) ?_
  intro W base args ds gs before hval0 hW hwt hT
  have hval : ∀ (j : Nat) t v, Tryz.f3.params[j]? = some t → args[j]? = some v → Value.okWide Tryz.prog W .any base t v := hval0
  have hW' := hW
  obtain ⟨p, q, hA0, hV, rfl, hfz, hnd⟩ := hW
  have hA : DataW.TrodAll enc Tryz.prog W 0 (fun _ => true) true Tryz.f3.params.toList args.toList ds p := hA0
  rw [Tryz.params3] at hA hval hwt
  obtain ⟨v0, vs0, d0, ds0, p0, q0, hargs, rfl, rfl, h0, r0⟩ := trodAll_cons hA
  obtain ⟨v1, vs1, d1, ds1, p1, q1, rfl, rfl, rfl, h1, r1⟩ := trodAll_cons r0
  obtain ⟨rfl, rfl, rfl⟩ := trodAll_nil r1
  obtain rfl : args = #[v0, v1] := by cases args; simp_all
  obtain ⟨rfl, rfl⟩ := trodVars_none hV
  have hwl : ∀ z, (z ∈ d0.weights Tryz.prog 23 → z ≤ reachBytes) ∧ (z ∈ d1.weights Tryz.prog 26 → z ≤ reachBytes) := fun z => by
    have h := List.all_eq_true.1 hwt z
    simp only [decide_eq_true_eq] at h
    refine ⟨fun hz => h ?_, fun hz => h ?_⟩
    all_goals
      simp only [List.cons_append, List.nil_append, List.toList_toArray, List.append_nil, DataW.weightsEach, List.mem_append]
      simp [hz]
  have k0 := h0
  have lt0 : ∀ x ∈ p0, x.block < W.heap.size := by obtain ⟨m, hm⟩ := k0; exact DataW.trod_lt m _ _ _ hm
  obtain ⟨e0, pp0, s0, rfl⟩ := open_delims (hval 0 23 v0 rfl rfl) h0
  have k1 := h1
  have lt1 : ∀ x ∈ p1, x.block < W.heap.size := by obtain ⟨m, hm⟩ := k1; exact DataW.trod_lt m _ _ _ hm
  obtain ⟨n1, l1, m1, rfl, g1, z1⟩ := open_batch (hval 1 26 v1 rfl rfl) h1 (fun z hz => (hwl z).2 hz)
  clear hA0 hval0
  refine (walk W e0 pp0 s0 n1 l1 m1 g1 z1 hT.1 hT.2).mono fun e W' ⟨he, bel⟩ => ?_
  subst he
  exact ⟨_, rfl, _, _, _, [], _, [], hW', (trodAll_cons_mk (shut_bool Tryz.underlying4 _) trodAll_mk0), (trodAll_cons_mk (Below.trod laidOut (by kernel_rfl) (of_decide_eq_true (by kernel_rfl)) k0 bel lt0) (trodAll_cons_mk (Below.trod laidOut (by kernel_rfl) (of_decide_eq_true (by kernel_rfl)) k1 bel lt1) trodAll_mk0)), rfl, bel.frame _, fun h => by cases h⟩

theorem over : Rows.eightWritesRow.holds Tryz.pinned (OpenSpec.ofChange Rows.eightWritesSpec) :=
  OpenClaim.holds_of_wide 3 Tryz.f3 rfl rfl rfl rfl rfl rfl rfl ⟨rfl, rfl, rfl, rfl, rfl⟩ rfl rfl rfl rfl rfl (by kernel_rfl) Tryz.func3 (by kernel_rfl)
    (of_decide_eq_true (by kernel_rfl)) (by unfold Func.isWrapper; first | (rw [if_pos (by decide +kernel)]; kernel_rfl) | (rw [if_neg (by decide +kernel)]; exact ⟨rfl, rfl⟩))
    (fun os started H enc _ => lifted os started H enc)

/-- The row's statement. -/
theorem proved : Rows.EightWritesSaid := over
end Go.Proofs.YtpmnepihaljamaaGreatDoor.eightWrites
namespace Go.Proofs.YtpmnepihaljamaaGreatDoor
theorem eightWrites_holds : Rows.EightWritesCardSaid :=
  Claim7.holds_tied_plain_at .later [] [.data, .data, .data, .data, .data, .pinned] true (true, "122e963fb66ddac7511cf8e03ec72daa6168b7b23aebada0a115fea26b40cd7f") false
    eightWrites.proved (fun _ h => by cases h) (by kernel_rfl) (fun _ h => by cases h) eightWrites_row_tie rfl ⟨rfl, rfl⟩ (by kernel_rfl) rfl
    (fun f fn hf hfn => by
      obtain rfl : f = 3 := Option.some.inj ((show Tryz.prog.funcNamed "leechbook/leechbooklaw08.EightWrites" = some 3 by kernel_rfl).symm.trans hf) |>.symm
      obtain rfl : fn = Tryz.f3 := (Option.some.inj (Tryz.func3.symm.trans hfn)).symm
      exact ⟨by kernel_rfl, fun j t ht => by
        rw [Tryz.params3] at ht
        have hm : t ∈ [23, 26] := by simpa using Array.mem_of_getElem? ht
        have hall : ([23, 26].all fun u => !Tryz.prog.wantsStandIn u) = true := by kernel_rfl
        exact (show Tryz.prog.wantsStandIn t = false by simpa using List.all_eq_true.1 hall t hm)⟩)
    (by kernel_rfl)
#print axioms eightWrites_holds
end Go.Proofs.YtpmnepihaljamaaGreatDoor
