/-
  EightSigns holds for every two signs and every batch: which signs stand between plays no part.
-/
import Derived.WalkKit
import Derived.ProofKit
import Derived.OpenShut
import Derived.ShutString
import Derived.Below
import Derived.Carry
import Derived.LaidMore
import Derived.Stop.Joined
import Derived.SevenTiedAt
import Derived.Deep.DeepCutAuto
import Derived.Test.YtpmnepihaljamaaGreatDoorRows
import Derived.Test.YtpmnepihaljamaaGreatDoorTie
import Derived.Test.YtpmnepihaljamaaGreatDoorCards
import Derived.Test.YtpmnepihaljamaaGreatDoorM1
import Derived.Test.YtpmnepihaljamaaGreatDoorM2
import Derived.Test.YtpmnepihaljamaaGreatDoorM3
import Derived.Test.YtpmnepihaljamaaGreatDoorM4
import Derived.Test.YtpmnepihaljamaaGreatDoorM5
import Derived.Test.YtpmnepihaljamaaGreatDoorM6
import Derived.Test.YtpmnepihaljamaaGreatDoorM7
import Derived.Test.YtpmnepihaljamaaGreatDoorM8
import Derived.Test.YtpmnepihaljamaaGreatDoorM9
import Derived.Test.YtpmnepihaljamaaGreatDoorM10
import Derived.Test.YtpmnepihaljamaaGreatDoorM11
import Derived.Test.YtpmnepihaljamaaGreatDoorM12
import Derived.Test.YtpmnepihaljamaaGreatDoorM13
import Derived.Test.YtpmnepihaljamaaGreatDoorM14
import Derived.Test.YtpmnepihaljamaaGreatDoorM15
import Derived.Test.YtpmnepihaljamaaGreatDoorM16
import Derived.Test.YtpmnepihaljamaaGreatDoorM17
import Derived.Test.YtpmnepihaljamaaGreatDoorM18
import Derived.Test.YtpmnepihaljamaaGreatDoorM19
import Derived.Test.YtpmnepihaljamaaGreatDoorM20
import Derived.Test.YtpmnepihaljamaaGreatDoorM21
import Derived.Test.YtpmnepihaljamaaGreatDoorM22
import Derived.Test.YtpmnepihaljamaaGreatDoorM23
import Derived.Test.YtpmnepihaljamaaGreatDoorM24
import Derived.Test.YtpmnepihaljamaaGreatDoorM25
import Derived.Test.YtpmnepihaljamaaGreatDoorM26
import Derived.Test.YtpmnepihaljamaaGreatDoorM27
import Derived.Test.YtpmnepihaljamaaGreatDoorM28
import Derived.Test.YtpmnepihaljamaaGreatDoorM29
import Derived.Test.YtpmnepihaljamaaGreatDoorM30
import Derived.Test.YtpmnepihaljamaaGreatDoorM31
import Derived.Test.YtpmnepihaljamaaGreatDoorM32
import Derived.Test.YtpmnepihaljamaaGreatDoorM33
import Derived.Test.YtpmnepihaljamaaGreatDoorM34
import Derived.Test.YtpmnepihaljamaaGreatDoorM35
import Derived.Test.YtpmnepihaljamaaGreatDoorM36
import Derived.Test.YtpmnepihaljamaaGreatDoorM37
import Derived.Test.YtpmnepihaljamaaGreatDoorM38
import Derived.Test.YtpmnepihaljamaaGreatDoorM39
import Derived.Test.YtpmnepihaljamaaGreatDoorM40
import Derived.Test.YtpmnepihaljamaaGreatDoorM41
namespace Go.Proofs.YtpmnepihaljamaaGreatDoor.eightSigns
open Go.ChangeShapes Go.WideShapes Go.ChangeAt Go.RowKit
open Cm Eo
open Go.ChangeMaps (open_string)
set_option linter.unusedVariables false
set_option linter.unusedSimpArgs false


theorem own : ownKnob Tryz.prog.godebug = none := by kernel_rfl

/-! ### the walk: the law returns true -/
set_option maxHeartbeats 8000000 in
theorem walk (w : World) (e0 p0 s0 : UInt8) (e1 p1 s1 : UInt8) (n2 : Int) (l2 : List Cl) (m2 : Value) (h2 : ClsAt All w m2 l2) (z2 : ∀ c ∈ l2, ClOk c) (hT : Tab w) (hD : Da.Tab w) :
    Calls Tryz.prog 7 #[dv e0 p0 s0, dv e1 p1 s1, btv n2 m2] w fun e w' => e = .returned (.bool true) ∧ Below w.heap.size w w' := by
  have HWK := Lib.hid fun W (hW : Below w.heap.size w W) => works_any W (tab_grw hT hW) (Cm.tab_below hD hW)
  have HLi := Lib.hid fun W (hW : Below w.heap.size w W) => light_any n2 m2 l2 W (ClsAt.move h2 (Below.moves hW)) z2
  have HCl := Lib.hid fun W (hW : Below w.heap.size w W) => ClsAt.move h2 (Below.moves hW)
  have HTb := Lib.hid (And.intro hT hD)
  have HZ := Lib.hid z2
  have b01 := below_alloc w (.cells #[.int .u8 e0.toNat, .int .u8 p0.toNat, .int .u8 s0.toNat] 23)
  have b12 := below_alloc (w.alloc (.cells #[.int .u8 e0.toNat, .int .u8 p0.toNat, .int .u8 s0.toNat] 23)) (.cells #[.int .u8 e1.toNat, .int .u8 p1.toNat, .int .u8 s1.toNat] 23)
  have b23 := below_alloc ((w.alloc (.cells #[.int .u8 e0.toNat, .int .u8 p0.toNat, .int .u8 s0.toNat] 23)).alloc (.cells #[.int .u8 e1.toNat, .int .u8 p1.toNat, .int .u8 s1.toNat] 23)) (.cells #[.int .i64 n2, m2] 26)
  have HB0 := Lib.hid (below_trans b01 (below_trans b12 b23))
  have HX0 := Lib.hid (keepB (heap_alloc_new w (.cells #[.int .u8 e0.toNat, .int .u8 p0.toNat, .int .u8 s0.toNat] 23)) (below_trans b12 b23))
  have HV0 := Lib.hid (keepB (new_at' (w.alloc (.cells #[.int .u8 e0.toNat, .int .u8 p0.toNat, .int .u8 s0.toNat] 23)) (.cells #[.int .u8 e1.toNat, .int .u8 p1.toNat, .int .u8 s1.toNat] 23) (w.heap.size + 1) (by simp)) b23)
  have HY0 := Lib.hid (new_at' ((w.alloc (.cells #[.int .u8 e0.toNat, .int .u8 p0.toNat, .int .u8 s0.toNat] 23)).alloc (.cells #[.int .u8 e1.toNat, .int .u8 p1.toNat, .int .u8 s1.toNat] 23)) (.cells #[.int .i64 n2, m2] 26) (w.heap.size + 1 + 1) (by simp))
  obtain ⟨ma, mc, rfl, f1, f2⟩ := ClsAt.form h2
  clear h2 z2 hT hD b01 b12 b23
  go_enter Tryz.func7, Tryz.ntmps7
  go_upto_region 1 with fail
  generalize ((w.alloc (.cells #[.int .u8 e0.toNat, .int .u8 p0.toNat, .int .u8 s0.toNat] 23)).alloc (.cells #[.int .u8 e1.toNat, .int .u8 p1.toNat, .int .u8 s1.toNat] 23)).alloc (.cells #[.int .i64 n2, .slice ma l2.length mc] 26) = w0 at *
  obtain ⟨b0, b1, -⟩ := cells2 HY0.out
  go_wp2_with fail
  go_at_call 9
  refine (HLi.out _ HB0.out).mono ?_
  rintro x w1 ⟨⟨L, rfl, hL⟩, hb1⟩
  have HB1 := Lib.hid (below_trans HB0.out hb1)
  have HX1 := Lib.hid (keepB HX0.out hb1)
  have HV1 := Lib.hid (keepB HV0.out hb1)
  have HY1 := Lib.hid (keepB HY0.out hb1)
  clear hb1 b0 b1
  cases L
  · go_wp2_with (go_at_call 10; refine (HWK.out _ HB1.out).mono ?_; rintro x w9 ⟨rfl, hb9⟩; have HB9 := Lib.hid (below_trans HB1.out hb9); clear hb9)
    go_ret
    exact ⟨rfl, HB9.out⟩
  obtain ⟨hl1, hl2⟩ := hL rfl
  have HSg : Hid (batchE n2 l2 = 0 → ln (Et.segs l2) ≤ 90000 ∧ (Et.segs l2).length ≤ 100000) := fun hb => Et.segs_light n2 l2 hb hl2
  have HW0 := Lib.hid fun W (hW : Below w.heap.size w W) => ewrite_any e0 p0 s0 n2 _ l2 W (HCl.out W hW) HZ.out (tab_grw HTb.out.1 hW) (Cm.tab_below HTb.out.2 hW) HSg.out
  have HW1 := Lib.hid fun W (hW : Below w.heap.size w W) => ewrite_any e1 p1 s1 n2 _ l2 W (HCl.out W hW) HZ.out (tab_grw HTb.out.1 hW) (Cm.tab_below HTb.out.2 hW) HSg.out
  clear hL hl1 hl2 HX0 HV0 HY0 HB0
  by_cases hE0 : Et.wtE e0 p0 s0 n2 l2 = 0
  case neg =>
    have hne : (Et.wtE e0 p0 s0 n2 l2 != 0) = true := by simpa using hE0
    clear hE0
    generalize Et.wtE e0 p0 s0 n2 l2 = E0 at *
    generalize Et.wtE e1 p1 s1 n2 l2 = E1 at *
    generalize mk (Et.wtV e0 p0 s0 n2 l2) = T0 at *
    generalize mk (Et.wtV e1 p1 s1 n2 l2) = T1 at *
    obtain ⟨d0, d1, d2, -⟩ := cells3 HX1.out
    obtain ⟨b0, b1, -⟩ := cells2 HY1.out
    go_wp2_with fail
    go_at_call 11
    refine (HW0.out _ HB1.out).mono ?_
    rintro x w2 ⟨rfl, hb2⟩
    have HB2 := Lib.hid (below_trans HB1.out hb2)
    have HV2 := Lib.hid (keepB HV1.out hb2)
    have HY2 := Lib.hid (keepB HY1.out hb2)
    clear hb2 d0 d1 d2 b0 b1
    obtain ⟨d0, d1, d2, -⟩ := cells3 HV2.out
    obtain ⟨b0, b1, -⟩ := cells2 HY2.out
    go_wp2_with fail
    go_at_call 11
    refine (HW1.out _ HB2.out).mono ?_
    rintro x w3 ⟨rfl, hb3⟩
    have HB3 := Lib.hid (below_trans HB2.out hb3)
    clear hb3 d0 d1 d2 b0 b1
    go_wp2_with (go_at_call 10; refine (HWK.out _ HB3.out).mono ?_; rintro x w9 ⟨rfl, hb9⟩; have HB9 := Lib.hid (below_trans HB3.out hb9); clear hb9)
    go_ret
    exact ⟨rfl, HB9.out⟩
  by_cases hE1 : Et.wtE e1 p1 s1 n2 l2 = 0
  case neg =>
    have hne : (Et.wtE e1 p1 s1 n2 l2 != 0) = true := by simpa using hE1
    rw [hE0] at HW0
    clear hE0 hE1
    generalize Et.wtE e1 p1 s1 n2 l2 = E1 at *
    generalize mk (Et.wtV e0 p0 s0 n2 l2) = T0 at *
    generalize mk (Et.wtV e1 p1 s1 n2 l2) = T1 at *
    obtain ⟨d0, d1, d2, -⟩ := cells3 HX1.out
    obtain ⟨b0, b1, -⟩ := cells2 HY1.out
    go_wp2_with fail
    go_at_call 11
    refine (HW0.out _ HB1.out).mono ?_
    rintro x w2 ⟨rfl, hb2⟩
    have HB2 := Lib.hid (below_trans HB1.out hb2)
    have HV2 := Lib.hid (keepB HV1.out hb2)
    have HY2 := Lib.hid (keepB HY1.out hb2)
    clear hb2 d0 d1 d2 b0 b1
    obtain ⟨d0, d1, d2, -⟩ := cells3 HV2.out
    obtain ⟨b0, b1, -⟩ := cells2 HY2.out
    go_wp2_with fail
    go_at_call 11
    refine (HW1.out _ HB2.out).mono ?_
    rintro x w3 ⟨rfl, hb3⟩
    have HB3 := Lib.hid (below_trans HB2.out hb3)
    clear hb3 d0 d1 d2 b0 b1
    go_wp2_with (go_at_call 10; refine (HWK.out _ HB3.out).mono ?_; rintro x w9 ⟨rfl, hb9⟩; have HB9 := Lib.hid (below_trans HB3.out hb9); clear hb9)
    go_ret
    exact ⟨rfl, HB9.out⟩
  have HRd0 : Hid (∀ W, Below w.heap.size w W → Calls Tryz.prog 13 #[.string (mk (Et.wtV e0 p0 s0 n2 l2))] W fun x w' => (∃ u, x = .returned (.tuple #[.agg #[.int .u8 e0.toNat, .int .u8 p0.toNat, .int .u8 s0.toNat], .agg #[.int .i64 n2, u], .int .i64 0]) ∧ ClsAt (fun b => W.heap.size ≤ b) w' u l2) ∧ Below W.heap.size W w') := fun W hW => by
    obtain ⟨r1, r2, r3, r4⟩ := Et.eight_back hE0
    have hlen := (Et.wt_len hE0).2
    have := eread_any (mk (Et.wtV e0 p0 s0 n2 l2)) W (tab_grw HTb.out.1 hW) (Cm.tab_below HTb.out.2 hW) (by rw [mk_size]; unfold maxLen; omega)
    rw [mk_list, r1, r2, r3, r4] at this
    exact this
  have HRd1 : Hid (∀ W, Below w.heap.size w W → Calls Tryz.prog 13 #[.string (mk (Et.wtV e1 p1 s1 n2 l2))] W fun x w' => (∃ u, x = .returned (.tuple #[.agg #[.int .u8 e1.toNat, .int .u8 p1.toNat, .int .u8 s1.toNat], .agg #[.int .i64 n2, u], .int .i64 0]) ∧ ClsAt (fun b => W.heap.size ≤ b) w' u l2) ∧ Below W.heap.size W w') := fun W hW => by
    obtain ⟨r1, r2, r3, r4⟩ := Et.eight_back hE1
    have hlen := (Et.wt_len hE1).2
    have := eread_any (mk (Et.wtV e1 p1 s1 n2 l2)) W (tab_grw HTb.out.1 hW) (Cm.tab_below HTb.out.2 hW) (by rw [mk_size]; unfold maxLen; omega)
    rw [mk_list, r1, r2, r3, r4] at this
    exact this
  have hlen : (mk (Et.wtV e0 p0 s0 n2 l2)).size = (mk (Et.wtV e1 p1 s1 n2 l2)).size := by rw [mk_size, mk_size, (Et.wt_len hE0).1, (Et.wt_len hE1).1]
  rw [hE0] at HW0
  rw [hE1] at HW1
  clear hE0 hE1
  generalize mk (Et.wtV e0 p0 s0 n2 l2) = T0 at *
  generalize mk (Et.wtV e1 p1 s1 n2 l2) = T1 at *
  obtain ⟨d0, d1, d2, -⟩ := cells3 HX1.out
  obtain ⟨b0, b1, -⟩ := cells2 HY1.out
  go_wp2_with fail
  go_at_call 11
  refine (HW0.out _ HB1.out).mono ?_
  rintro x w2 ⟨rfl, hb2⟩
  have HB2 := Lib.hid (below_trans HB1.out hb2)
  have HV2 := Lib.hid (keepB HV1.out hb2)
  have HY2 := Lib.hid (keepB HY1.out hb2)
  clear hb2 d0 d1 d2 b0 b1
  obtain ⟨d0, d1, d2, -⟩ := cells3 HV2.out
  obtain ⟨b0, b1, -⟩ := cells2 HY2.out
  go_wp2_with fail
  go_at_call 11
  refine (HW1.out _ HB2.out).mono ?_
  rintro x w3 ⟨rfl, hb3⟩
  have HB3 := Lib.hid (below_trans HB2.out hb3)
  clear hb3 d0 d1 d2 b0 b1
  go_wp2_with fail
  go_at_call 13
  refine (HRd0.out _ HB3.out).mono ?_
  rintro x w5 ⟨⟨u, rfl, hu⟩, hb5⟩
  have HU5 := Lib.hid hu
  obtain ⟨ua, uc, rfl, -, -, -⟩ := hu
  have hb6 := below_trans (below_alloc w5 (.cells #[.int .u8 e0.toNat, .int .u8 p0.toNat, .int .u8 s0.toNat] 23)) (below_alloc _ (.cells #[.int .i64 n2, .slice ua l2.length uc] 26))
  have HB6 := Lib.hid (below_trans HB3.out (below_trans hb5 hb6))
  have HQ6 := Lib.hid (new_at' (w5.alloc (.cells #[.int .u8 e0.toNat, .int .u8 p0.toNat, .int .u8 s0.toNat] 23)) (.cells #[.int .i64 n2, .slice ua l2.length uc] 26) (w5.heap.size + 1) (by simp))
  have HU6 := Lib.hid (ClsAt.move (K' := All) HU5.out (Moves.trans (moves_weak _ fun _ _ _ => trivial) (Below.moves hb6)))
  clear hb5 hb6 HU5
  go_upto_region 8 with fail
  generalize (w5.alloc (.cells #[.int .u8 e0.toNat, .int .u8 p0.toNat, .int .u8 s0.toNat] 23)).alloc (.cells #[.int .i64 n2, .slice ua l2.length uc] 26) = w6 at *
  go_wp2_with fail
  go_at_call 13
  refine (HRd1.out _ HB6.out).mono ?_
  rintro x w7 ⟨⟨v, rfl, hv⟩, hb7⟩
  have HV7 := Lib.hid hv
  obtain ⟨va, vc, rfl, -, -, -⟩ := hv
  have hb8 := below_trans (below_alloc w7 (.cells #[.int .u8 e1.toNat, .int .u8 p1.toNat, .int .u8 s1.toNat] 23)) (below_alloc _ (.cells #[.int .i64 n2, .slice va l2.length vc] 26))
  have hb78 := below_trans hb7 hb8
  have HB8 := Lib.hid (below_trans HB6.out hb78)
  have HQ8 := Lib.hid (keepB HQ6.out hb78)
  have HU8 := Lib.hid (ClsAt.move HU6.out (Below.moves hb78))
  have HR8 := Lib.hid (new_at' (w7.alloc (.cells #[.int .u8 e1.toNat, .int .u8 p1.toNat, .int .u8 s1.toNat] 23)) (.cells #[.int .i64 n2, .slice va l2.length vc] 26) (w7.heap.size + 1) (by simp))
  have HV8 := Lib.hid (ClsAt.move (K' := All) HV7.out (Moves.trans (moves_weak _ fun _ _ _ => trivial) (Below.moves hb8)))
  clear hb7 hb8 hb78 HV7
  go_upto_region 9 with fail
  generalize (w7.alloc (.cells #[.int .u8 e1.toNat, .int .u8 p1.toNat, .int .u8 s1.toNat] 23)).alloc (.cells #[.int .i64 n2, .slice va l2.length vc] 26) = w8 at *
  obtain ⟨g0, g1, -⟩ := cells2 HQ8.out
  obtain ⟨k0, k1, -⟩ := cells2 HR8.out
  have HSm := Lib.hid (bsame_eq n2 _ _ l2 w8 HU8.out HV8.out)
  go_wp2_with (first | (go_at_call 15; refine HSm.out.mono ?_; rintro x wt ⟨rfl, hbt⟩; have HBt := Lib.hid (below_trans HB8.out hbt); clear hbt) | (go_at_call 10; refine (HWK.out _ HBt.out).mono ?_; rintro x w9 ⟨rfl, hb9⟩; have HB9 := Lib.hid (below_trans HBt.out hb9); clear hb9))
  go_ret
  exact ⟨rfl, HB9.out⟩

/-! ### the row's step -/
theorem laidOut : laidOutB Tryz.prog = true := by kernel_rfl
set_option maxRecDepth 100000 in
theorem lifted (os : Os) (started : os.Started) (H : Type) (enc : TypeId × Value → H) :
    ReturnsInHanded {} Tryz.checked os 7 .any (fun w args => (Rows.eightSignsSpec.pre enc Tryz.prog Tryz.f7 [] false w args ∧ laidMetH Tryz.prog laidL w) ∧ sizedMet enc Tryz.prog Tryz.f7 (OpenSpec.ofChange Rows.eightSignsSpec) false w args) (Rows.eightSignsSpec.post enc Tryz.prog Tryz.f7 false true false false) := by
  refine lift own started (by kernel_rfl) Tryz.func7
    (ChangeSpec.witness_shaped (enc := enc) (C := Tryz.checked) (os := os) (X := fun w _ => laidMetH Tryz.prog laidL w) false (World.laidAll Tryz.prog os laidL) #[.agg #[.int .u8 0, .int .u8 0, .int .u8 0], .agg #[.int .u8 0, .int .u8 0, .int .u8 0], .agg #[.int .i64 0, .slice none 0 0]] 8 (World.laidAll_os _ _ _)
      (World.shaped_of_ZipB (by kernel_rfl) (by kernel_rfl)) (by kernel_rfl) (by kernel_rfl) (by kernel_rfl)
      (by rw [MakeChecks.laidMetH_plain _ _ _ (by kernel_rfl)]; exact laidMet_laidAll _ (by kernel_rfl) (by kernel_rfl))) ?_
  intro W base args ds gs before hval0 hW hwt hT
  have hval : ∀ (j : Nat) t v, Tryz.f7.params[j]? = some t → args[j]? = some v → Value.okWide Tryz.prog W .any base t v := hval0
  have hW' := hW
  obtain ⟨p, q, hA0, hV, rfl, hfz, hnd⟩ := hW
  have hA : DataW.TrodAll enc Tryz.prog W 0 (fun _ => true) true Tryz.f7.params.toList args.toList ds p := hA0
  rw [Tryz.params7] at hA hval hwt
  obtain ⟨v0, vs0, d0, ds0, p0, q0, hargs, rfl, rfl, h0, r0⟩ := trodAll_cons hA
  obtain ⟨v1, vs1, d1, ds1, p1, q1, rfl, rfl, rfl, h1, r1⟩ := trodAll_cons r0
  obtain ⟨v2, vs2, d2, ds2, p2, q2, rfl, rfl, rfl, h2, r2⟩ := trodAll_cons r1
  obtain ⟨rfl, rfl, rfl⟩ := trodAll_nil r2
  obtain rfl : args = #[v0, v1, v2] := by cases args; simp_all
  obtain ⟨rfl, rfl⟩ := trodVars_none hV
  have hwl : ∀ z, (z ∈ d0.weights Tryz.prog 23 → z ≤ reachBytes) ∧ (z ∈ d1.weights Tryz.prog 23 → z ≤ reachBytes) ∧ (z ∈ d2.weights Tryz.prog 26 → z ≤ reachBytes) := fun z => by
    have h := List.all_eq_true.1 hwt z
    simp only [decide_eq_true_eq] at h
    refine ⟨fun hz => h ?_, fun hz => h ?_, fun hz => h ?_⟩
    all_goals
      simp only [List.cons_append, List.nil_append, List.toList_toArray, List.append_nil, DataW.weightsEach, List.mem_append]
      simp [hz]
  have k0 := h0
  have lt0 : ∀ x ∈ p0, x.block < W.heap.size := by obtain ⟨m, hm⟩ := k0; exact DataW.trod_lt m _ _ _ hm
  obtain ⟨e0, pp0, s0, rfl⟩ := open_delims (hval 0 23 v0 rfl rfl) h0
  have k1 := h1
  have lt1 : ∀ x ∈ p1, x.block < W.heap.size := by obtain ⟨m, hm⟩ := k1; exact DataW.trod_lt m _ _ _ hm
  obtain ⟨e1, pp1, s1, rfl⟩ := open_delims (hval 1 23 v1 rfl rfl) h1
  have k2 := h2
  have lt2 : ∀ x ∈ p2, x.block < W.heap.size := by obtain ⟨m, hm⟩ := k2; exact DataW.trod_lt m _ _ _ hm
  obtain ⟨n2, l2, m2, rfl, g2, z2⟩ := open_batch (hval 2 26 v2 rfl rfl) h2 (fun z hz => (hwl z).2.2 hz)
  clear hA0 hval0
  refine (walk W e0 pp0 s0 e1 pp1 s1 n2 l2 m2 g2 z2 hT.1 hT.2).mono fun e W' ⟨he, bel⟩ => ?_
  subst he
  exact ⟨_, rfl, _, _, _, [], _, [], hW', (trodAll_cons_mk (shut_bool Tryz.underlying4 _) trodAll_mk0), (trodAll_cons_mk (Below.trod laidOut (by kernel_rfl) (of_decide_eq_true (by kernel_rfl)) k0 bel lt0) (trodAll_cons_mk (Below.trod laidOut (by kernel_rfl) (of_decide_eq_true (by kernel_rfl)) k1 bel lt1) (trodAll_cons_mk (Below.trod laidOut (by kernel_rfl) (of_decide_eq_true (by kernel_rfl)) k2 bel lt2) trodAll_mk0))), rfl, bel.frame _, fun h => by cases h⟩

theorem over : Rows.eightSignsRow.holds Tryz.pinned (OpenSpec.ofChange Rows.eightSignsSpec) :=
  OpenClaim.holds_of_wide 7 Tryz.f7 rfl rfl rfl rfl rfl rfl rfl ⟨rfl, rfl, rfl, rfl, rfl⟩ rfl rfl rfl rfl rfl (by kernel_rfl) Tryz.func7 (by kernel_rfl)
    (of_decide_eq_true (by kernel_rfl)) (by unfold Func.isWrapper; first | (rw [if_pos (by decide +kernel)]; kernel_rfl) | (rw [if_neg (by decide +kernel)]; exact ⟨rfl, rfl⟩))
    (fun os started H enc _ => lifted os started H enc)

/-- The row's statement. -/
theorem proved : Rows.EightSignsSaid := over
end Go.Proofs.YtpmnepihaljamaaGreatDoor.eightSigns
namespace Go.Proofs.YtpmnepihaljamaaGreatDoor
theorem eightSigns_holds : Rows.EightSignsCardSaid :=
  Claim7.holds_tied_plain_at .later [] [.data, .data, .data, .data, .data, .pinned] true (true, "122e963fb66ddac7511cf8e03ec72daa6168b7b23aebada0a115fea26b40cd7f") false
    eightSigns.proved (fun _ h => by cases h) (by kernel_rfl) (fun _ h => by cases h) eightSigns_row_tie rfl ⟨rfl, rfl⟩ (by kernel_rfl) rfl
    (fun f fn hf hfn => by
      obtain rfl : f = 7 := Option.some.inj ((show Tryz.prog.funcNamed "leechbook/leechbooklaw08.EightSigns" = some 7 by kernel_rfl).symm.trans hf) |>.symm
      obtain rfl : fn = Tryz.f7 := (Option.some.inj (Tryz.func7.symm.trans hfn)).symm
      exact ⟨by kernel_rfl, fun j t ht => by
        rw [Tryz.params7] at ht
        have hm : t ∈ [23, 23, 26] := by simpa using Array.mem_of_getElem? ht
        have hall : ([23, 23, 26].all fun u => !Tryz.prog.wantsStandIn u) = true := by kernel_rfl
        exact (show Tryz.prog.wantsStandIn t = false by simpa using List.all_eq_true.1 hall t hm)⟩)
    (by kernel_rfl)
#print axioms eightSigns_holds
end Go.Proofs.YtpmnepihaljamaaGreatDoor
