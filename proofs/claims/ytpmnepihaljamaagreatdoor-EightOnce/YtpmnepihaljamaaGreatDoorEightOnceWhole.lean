/-
  EightOnce holds for every text: what is read is a batch that may be; written it is a text that is read as the same batch.
-/
import Derived.WalkKit
import Derived.ProofKit
import Derived.OpenShut
import Derived.ShutString
import Derived.Below
import Derived.Carry
import Derived.LaidMore
import Derived.Stop.Joined
import Derived.SevenTiedAt
import Derived.Deep.DeepCutAuto
import Derived.Test.YtpmnepihaljamaaGreatDoorRows
import Derived.Test.YtpmnepihaljamaaGreatDoorTie
import Derived.Test.YtpmnepihaljamaaGreatDoorCards
import Derived.Test.YtpmnepihaljamaaGreatDoorM1
import Derived.Test.YtpmnepihaljamaaGreatDoorM2
import Derived.Test.YtpmnepihaljamaaGreatDoorM3
import Derived.Test.YtpmnepihaljamaaGreatDoorM4
import Derived.Test.YtpmnepihaljamaaGreatDoorM5
import Derived.Test.YtpmnepihaljamaaGreatDoorM6
import Derived.Test.YtpmnepihaljamaaGreatDoorM7
import Derived.Test.YtpmnepihaljamaaGreatDoorM8
import Derived.Test.YtpmnepihaljamaaGreatDoorM9
import Derived.Test.YtpmnepihaljamaaGreatDoorM10
import Derived.Test.YtpmnepihaljamaaGreatDoorM11
import Derived.Test.YtpmnepihaljamaaGreatDoorM12
import Derived.Test.YtpmnepihaljamaaGreatDoorM13
import Derived.Test.YtpmnepihaljamaaGreatDoorM14
import Derived.Test.YtpmnepihaljamaaGreatDoorM15
import Derived.Test.YtpmnepihaljamaaGreatDoorM16
import Derived.Test.YtpmnepihaljamaaGreatDoorM17
import Derived.Test.YtpmnepihaljamaaGreatDoorM18
import Derived.Test.YtpmnepihaljamaaGreatDoorM19
import Derived.Test.YtpmnepihaljamaaGreatDoorM20
import Derived.Test.YtpmnepihaljamaaGreatDoorM21
import Derived.Test.YtpmnepihaljamaaGreatDoorM22
import Derived.Test.YtpmnepihaljamaaGreatDoorM23
import Derived.Test.YtpmnepihaljamaaGreatDoorM24
import Derived.Test.YtpmnepihaljamaaGreatDoorM25
import Derived.Test.YtpmnepihaljamaaGreatDoorM26
import Derived.Test.YtpmnepihaljamaaGreatDoorM27
import Derived.Test.YtpmnepihaljamaaGreatDoorM28
import Derived.Test.YtpmnepihaljamaaGreatDoorM29
import Derived.Test.YtpmnepihaljamaaGreatDoorM30
import Derived.Test.YtpmnepihaljamaaGreatDoorM31
import Derived.Test.YtpmnepihaljamaaGreatDoorM32
import Derived.Test.YtpmnepihaljamaaGreatDoorM33
import Derived.Test.YtpmnepihaljamaaGreatDoorM34
import Derived.Test.YtpmnepihaljamaaGreatDoorM35
import Derived.Test.YtpmnepihaljamaaGreatDoorM36
import Derived.Test.YtpmnepihaljamaaGreatDoorM37
import Derived.Test.YtpmnepihaljamaaGreatDoorM38
import Derived.Test.YtpmnepihaljamaaGreatDoorM39
import Derived.Test.YtpmnepihaljamaaGreatDoorM40
import Derived.Test.YtpmnepihaljamaaGreatDoorM41
namespace Go.Proofs.YtpmnepihaljamaaGreatDoor.eightOnce
open Go.ChangeShapes Go.WideShapes Go.ChangeAt Go.RowKit
open Cm Eo
open Go.ChangeMaps (open_string)
set_option linter.unusedVariables false
set_option linter.unusedSimpArgs false


theorem own : ownKnob Tryz.prog.godebug = none := by kernel_rfl

/-! ### the walk: the law returns true -/
set_option maxHeartbeats 8000000 in
theorem walk (w : World) (a0 : ByteArray) (w0 : a0.size ≤ maxLen) (hT : Tab w) (hD : Da.Tab w) :
    Calls Tryz.prog 6 #[.string a0] w fun e w' => e = .returned (.bool true) ∧ Below w.heap.size w w' := by
  have HWK := Lib.hid fun W (hW : Below w.heap.size w W) => works_any W (tab_grw hT hW) (Cm.tab_below hD hW)
  have HTb := Lib.hid (And.intro hT hD)
  have HL : Hid (a0.data.toList.length = a0.size) := (Lib.size_eq a0).symm
  by_cases hl : 20000 < a0.size
  · have hl' : (20000 : Int) < (a0.size : Int) := by omega
    have HB0 := Lib.hid (Below.refl w.heap.size w)
    clear hl
    go_enter Tryz.func6, Tryz.ntmps6
    go_wp2_with (go_at_call 10; refine (HWK.out _ HB0.out).mono ?_; rintro x w9 ⟨rfl, hb9⟩; have HB9 := Lib.hid (below_trans HB0.out hb9); clear hb9)
    go_ret
    exact ⟨rfl, HB9.out⟩
  have hl' : ¬ (20000 : Int) < (a0.size : Int) := by omega
  have HRd := Lib.hid (eread_any a0 w hT hD w0)
  clear hT hD
  by_cases hE : Et.rE a0.data.toList = 0
  case neg =>
    obtain ⟨n1, n2, n3⟩ := r_no hE
    rw [n1, n2, n3] at HRd
    have hne : (Et.rE a0.data.toList != 0) = true := by simpa using hE
    clear hE n1 n2 n3 hl
    generalize Et.rE a0.data.toList = E at *
    have HRd2 : Hid (Calls Tryz.prog 13 #[.string a0] w fun x w' => (∃ u, x = .returned (.tuple #[.agg #[.int .u8 0, .int .u8 0, .int .u8 0], .agg #[.int .i64 0, u], .int .i64 E]) ∧ ClsAt (fun b => w.heap.size ≤ b) w' u []) ∧ Below w.heap.size w w') := HRd.out
    clear HRd
    go_enter Tryz.func6, Tryz.ntmps6
    go_wp2_with fail
    go_at_call 13
    refine HRd2.out.mono ?_
    rintro x w1 ⟨⟨u, rfl, hu⟩, hb1⟩
    have HU1 := Lib.hid hu
    obtain ⟨ua, uc, rfl, -, -, -⟩ := hu
    have hb2 := below_trans (below_alloc w1 (.cells #[.int .u8 0, .int .u8 0, .int .u8 0] 23)) (below_alloc _ (.cells #[.int .i64 0, .slice ua 0 uc] 26))
    have HB2 := Lib.hid (below_trans hb1 hb2)
    have HP2 := Lib.hid (keepB (heap_alloc_new w1 (.cells #[.int .u8 0, .int .u8 0, .int .u8 0] 23)) (below_alloc (w1.alloc (.cells #[.int .u8 0, .int .u8 0, .int .u8 0] 23)) (.cells #[.int .i64 0, .slice ua 0 uc] 26)))
    have HQ2 := Lib.hid (new_at' (w1.alloc (.cells #[.int .u8 0, .int .u8 0, .int .u8 0] 23)) (.cells #[.int .i64 0, .slice ua 0 uc] 26) (w1.heap.size + 1) (by simp))
    have HU2 := Lib.hid (ClsAt.move (K' := All) HU1.out (Moves.trans (moves_weak _ fun _ _ _ => trivial) (Below.moves hb2)))
    clear hb1 hb2 HU1
    go_upto_region 5 with fail
    generalize (w1.alloc (.cells #[.int .u8 0, .int .u8 0, .int .u8 0] 23)).alloc (.cells #[.int .i64 0, .slice ua 0 uc] 26) = w2 at *
    obtain ⟨d0, d1, d2, -⟩ := cells3 HP2.out
    obtain ⟨b0, b1, -⟩ := cells2 HQ2.out
    have HSm : Hid (Calls Tryz.prog 15 #[.agg #[.int .i64 0, .slice ua 0 uc], .agg #[.int .i64 0, .slice none 0 0]] w2 fun e w' => e = .returned (.bool true) ∧ Below w2.heap.size w2 w') := bsame_eq 0 _ _ [] w2 HU2.out (cls_nil _ _)
    go_wp2_with (first | (go_at_call 15; refine HSm.out.mono ?_; rintro x w3 ⟨rfl, hb3⟩; have HB3 := Lib.hid (below_trans HB2.out hb3); have HP3 := Lib.hid (keepB HP2.out hb3); clear hb3 d0 d1 d2 b0 b1; obtain ⟨d0, d1, d2, -⟩ := cells3 HP3.out) | (go_at_call 10; refine (HWK.out _ HB3.out).mono ?_; rintro x w9 ⟨rfl, hb9⟩; have HB9 := Lib.hid (below_trans HB3.out hb9); clear hb9))
    go_ret
    exact ⟨rfl, HB9.out⟩
  obtain ⟨o1, o2, o3, o4⟩ := Et.eight_once hE (by rw [HL.out]; omega)
  obtain ⟨ok1, ok2⟩ := Et.batch_ok o1
  rw [hE] at HRd
  obtain ⟨⟨e, p, s⟩, hDD⟩ : ∃ DD, Et.rD a0.data.toList = DD := ⟨_, rfl⟩
  rw [hDD] at HRd o4
  generalize Et.rN a0.data.toList = N at *
  generalize Et.rV a0.data.toList = V at *
  have o4' : Et.wtE e p s N V = 0 ∨ Et.wtE e p s N V = 10 := o4
  have HRd2 : Hid (Calls Tryz.prog 13 #[.string a0] w fun x w' => (∃ u, x = .returned (.tuple #[.agg #[.int .u8 e.toNat, .int .u8 p.toNat, .int .u8 s.toNat], .agg #[.int .i64 N, u], .int .i64 0]) ∧ ClsAt (fun b => w.heap.size ≤ b) w' u V) ∧ Below w.heap.size w w') := HRd.out
  have HW := Lib.hid fun W m (hW : Below w.heap.size w W) (hm : ClsAt All W m V) => ewrite_any e p s N m V W hm ok1 (tab_grw HTb.out.1 hW) (Cm.tab_below HTb.out.2 hW) (fun _ => ⟨o2, o3⟩)
  have HRb : Hid (∀ W m, ClsAt All W m V → Calls Tryz.prog 16 #[btv N m] W fun e w' => e = .returned (.int .i64 0) ∧ Below W.heap.size W w') := fun W m hm => by
    have := rbatch_any N m V W hm ok1 ok2
    rw [o1] at this
    exact this
  clear HRd hE hDD o1 o2 o3 o4 ok1 ok2 hl
  rcases o4' with hw | hw
  case inr =>
    rw [hw] at HW
    clear hw
    generalize mk (Et.wtV e p s N V) = T at *
    go_enter Tryz.func6, Tryz.ntmps6
    go_wp2_with fail
    go_at_call 13
    refine HRd2.out.mono ?_
    rintro x w1 ⟨⟨u, rfl, hu⟩, hb1⟩
    have HU1 := Lib.hid hu
    obtain ⟨ua, uc, rfl, -, -, -⟩ := hu
    have hb2 := below_trans (below_alloc w1 (.cells #[.int .u8 e.toNat, .int .u8 p.toNat, .int .u8 s.toNat] 23)) (below_alloc _ (.cells #[.int .i64 N, .slice ua V.length uc] 26))
    have HB2 := Lib.hid (below_trans hb1 hb2)
    have HP2 := Lib.hid (keepB (heap_alloc_new w1 (.cells #[.int .u8 e.toNat, .int .u8 p.toNat, .int .u8 s.toNat] 23)) (below_alloc (w1.alloc (.cells #[.int .u8 e.toNat, .int .u8 p.toNat, .int .u8 s.toNat] 23)) (.cells #[.int .i64 N, .slice ua V.length uc] 26)))
    have HQ2 := Lib.hid (new_at' (w1.alloc (.cells #[.int .u8 e.toNat, .int .u8 p.toNat, .int .u8 s.toNat] 23)) (.cells #[.int .i64 N, .slice ua V.length uc] 26) (w1.heap.size + 1) (by simp))
    have HU2 := Lib.hid (ClsAt.move (K' := All) HU1.out (Moves.trans (moves_weak _ fun _ _ _ => trivial) (Below.moves hb2)))
    clear hb1 hb2 HU1
    go_upto_region 6 with fail
    generalize (w1.alloc (.cells #[.int .u8 e.toNat, .int .u8 p.toNat, .int .u8 s.toNat] 23)).alloc (.cells #[.int .i64 N, .slice ua V.length uc] 26) = w2 at *
    obtain ⟨d0, d1, d2, -⟩ := cells3 HP2.out
    obtain ⟨b0, b1, -⟩ := cells2 HQ2.out
    have HW3 := Lib.hid (HW.out _ _ HB2.out HU2.out)
    go_wp2_with (first | (go_at_call 11; refine HW3.out.mono ?_; rintro x w3 ⟨rfl, hb3⟩; have HB3 := Lib.hid (below_trans HB2.out hb3); clear hb3) | (go_at_call 10; refine (HWK.out _ HB3.out).mono ?_; rintro x w9 ⟨rfl, hb9⟩; have HB9 := Lib.hid (below_trans HB3.out hb9); clear hb9))
    go_ret
    exact ⟨rfl, HB9.out⟩
  have HRe : Hid (∀ W, Below w.heap.size w W → Calls Tryz.prog 13 #[.string (mk (Et.wtV e p s N V))] W fun x w' => (∃ u, x = .returned (.tuple #[.agg #[.int .u8 e.toNat, .int .u8 p.toNat, .int .u8 s.toNat], .agg #[.int .i64 N, u], .int .i64 0]) ∧ ClsAt (fun b => W.heap.size ≤ b) w' u V) ∧ Below W.heap.size W w') := fun W hW => by
    obtain ⟨r1, r2, r3, r4⟩ := Et.eight_back hw
    have hlen := (Et.wt_len hw).2
    have := eread_any (mk (Et.wtV e p s N V)) W (tab_grw HTb.out.1 hW) (Cm.tab_below HTb.out.2 hW) (by rw [mk_size]; unfold maxLen; omega)
    rw [mk_list, r1, r2, r3, r4] at this
    exact this
  rw [hw] at HW
  clear hw
  generalize mk (Et.wtV e p s N V) = T at *
  go_enter Tryz.func6, Tryz.ntmps6
  go_wp2_with fail
  go_at_call 13
  refine HRd2.out.mono ?_
  rintro x w1 ⟨⟨u, rfl, hu⟩, hb1⟩
  have HU1 := Lib.hid hu
  obtain ⟨ua, uc, rfl, -, -, -⟩ := hu
  have hb2 := below_trans (below_alloc w1 (.cells #[.int .u8 e.toNat, .int .u8 p.toNat, .int .u8 s.toNat] 23)) (below_alloc _ (.cells #[.int .i64 N, .slice ua V.length uc] 26))
  have HB2 := Lib.hid (below_trans hb1 hb2)
  have HP2 := Lib.hid (keepB (heap_alloc_new w1 (.cells #[.int .u8 e.toNat, .int .u8 p.toNat, .int .u8 s.toNat] 23)) (below_alloc (w1.alloc (.cells #[.int .u8 e.toNat, .int .u8 p.toNat, .int .u8 s.toNat] 23)) (.cells #[.int .i64 N, .slice ua V.length uc] 26)))
  have HQ2 := Lib.hid (new_at' (w1.alloc (.cells #[.int .u8 e.toNat, .int .u8 p.toNat, .int .u8 s.toNat] 23)) (.cells #[.int .i64 N, .slice ua V.length uc] 26) (w1.heap.size + 1) (by simp))
  have HU2 := Lib.hid (ClsAt.move (K' := All) HU1.out (Moves.trans (moves_weak _ fun _ _ _ => trivial) (Below.moves hb2)))
  clear hb1 hb2 HU1
  go_upto_region 6 with fail
  generalize (w1.alloc (.cells #[.int .u8 e.toNat, .int .u8 p.toNat, .int .u8 s.toNat] 23)).alloc (.cells #[.int .i64 N, .slice ua V.length uc] 26) = w2 at *
  obtain ⟨d0, d1, d2, -⟩ := cells3 HP2.out
  obtain ⟨b0, b1, -⟩ := cells2 HQ2.out
  have HW3 := Lib.hid (HW.out _ _ HB2.out HU2.out)
  go_wp2_with fail
  go_at_call 11
  refine HW3.out.mono ?_
  rintro x w3 ⟨rfl, hb3⟩
  have HB3 := Lib.hid (below_trans HB2.out hb3)
  have HP3 := Lib.hid (keepB HP2.out hb3)
  have HQ3 := Lib.hid (keepB HQ2.out hb3)
  have HU3 := Lib.hid (ClsAt.move HU2.out (Below.moves hb3))
  clear hb3 d0 d1 d2 b0 b1 HP2 HQ2 HU2 HW3
  go_wp2_with fail
  go_at_call 13
  refine (HRe.out _ HB3.out).mono ?_
  rintro x w4 ⟨⟨v, rfl, hv⟩, hb4⟩
  have HV4 := Lib.hid hv
  obtain ⟨va, vc, rfl, -, -, -⟩ := hv
  have hb5 := below_trans (below_alloc w4 (.cells #[.int .u8 e.toNat, .int .u8 p.toNat, .int .u8 s.toNat] 23)) (below_alloc _ (.cells #[.int .i64 N, .slice va V.length vc] 26))
  have hb45 := below_trans hb4 hb5
  have HB5 := Lib.hid (below_trans HB3.out hb45)
  have HP5 := Lib.hid (keepB HP3.out hb45)
  have HQ5 := Lib.hid (keepB HQ3.out hb45)
  have HU5 := Lib.hid (ClsAt.move HU3.out (Below.moves hb45))
  have HR5 := Lib.hid (keepB (heap_alloc_new w4 (.cells #[.int .u8 e.toNat, .int .u8 p.toNat, .int .u8 s.toNat] 23)) (below_alloc (w4.alloc (.cells #[.int .u8 e.toNat, .int .u8 p.toNat, .int .u8 s.toNat] 23)) (.cells #[.int .i64 N, .slice va V.length vc] 26)))
  have HS5 := Lib.hid (new_at' (w4.alloc (.cells #[.int .u8 e.toNat, .int .u8 p.toNat, .int .u8 s.toNat] 23)) (.cells #[.int .i64 N, .slice va V.length vc] 26) (w4.heap.size + 1) (by simp))
  have HV5 := Lib.hid (ClsAt.move (K' := All) HV4.out (Moves.trans (moves_weak _ fun _ _ _ => trivial) (Below.moves hb5)))
  clear hb4 hb5 hb45 HV4 HP3 HQ3 HU3
  go_upto_region 10 with fail
  generalize (w4.alloc (.cells #[.int .u8 e.toNat, .int .u8 p.toNat, .int .u8 s.toNat] 23)).alloc (.cells #[.int .i64 N, .slice va V.length vc] 26) = w5 at *
  obtain ⟨b0, b1, -⟩ := cells2 HQ5.out
  have HB5b := Lib.hid (HRb.out _ _ HU5.out)
  go_wp2_with fail
  go_at_call 16
  refine HB5b.out.mono ?_
  rintro x w6 ⟨rfl, hb6⟩
  have HB6 := Lib.hid (below_trans HB5.out hb6)
  have HU6 := Lib.hid (ClsAt.move HU5.out (Below.moves hb6))
  have HV6 := Lib.hid (ClsAt.move HV5.out (Below.moves hb6))
  obtain ⟨k0, k1, -⟩ := cells2 (keepB HQ5.out hb6)
  obtain ⟨g0, g1, g2, -⟩ := cells3 (keepB HP5.out hb6)
  obtain ⟨j0, j1, j2, -⟩ := cells3 (keepB HR5.out hb6)
  obtain ⟨q0, q1, -⟩ := cells2 (keepB HS5.out hb6)
  clear hb6 b0 b1 HB5b
  have HSm := Lib.hid (bsame_eq N _ _ V w6 HU6.out HV6.out)
  go_wp2_with (first | (go_at_call 15; refine HSm.out.mono ?_; rintro x w7 ⟨rfl, hb7⟩; have HB7 := Lib.hid (below_trans HB6.out hb7); clear hb7) | (go_at_call 10; refine (HWK.out _ HB7.out).mono ?_; rintro x w9 ⟨rfl, hb9⟩; have HB9 := Lib.hid (below_trans HB7.out hb9); clear hb9))
  go_ret
  exact ⟨rfl, HB9.out⟩

/-! ### the row's step -/
theorem laidOut : laidOutB Tryz.prog = true := by kernel_rfl
set_option maxRecDepth 100000 in
theorem lifted (os : Os) (started : os.Started) (H : Type) (enc : TypeId × Value → H) :
    ReturnsInHanded {} Tryz.checked os 6 .any (fun w args => (Rows.eightOnceSpec.pre enc Tryz.prog Tryz.f6 [] false w args ∧ laidMetH Tryz.prog laidL w) ∧ sizedMet enc Tryz.prog Tryz.f6 (OpenSpec.ofChange Rows.eightOnceSpec) false w args) (Rows.eightOnceSpec.post enc Tryz.prog Tryz.f6 false true false false) := by
  refine lift own started (by kernel_rfl) Tryz.func6
    (ChangeSpec.witness_shaped (enc := enc) (C := Tryz.checked) (os := os) (X := fun w _ => laidMetH Tryz.prog laidL w) false (World.laidAll Tryz.prog os laidL) #[.string ByteArray.empty] 8 (World.laidAll_os _ _ _)
      (World.shaped_of_ZipB (by kernel_rfl) (by kernel_rfl)) (by kernel_rfl) (by kernel_rfl) (by kernel_rfl)
      (by rw [MakeChecks.laidMetH_plain _ _ _ (by kernel_rfl)]; exact laidMet_laidAll _ (by kernel_rfl) (by kernel_rfl))) ?_
  intro W base args ds gs before hval0 hW hwt hT
  have hval : ∀ (j : Nat) t v, Tryz.f6.params[j]? = some t → args[j]? = some v → Value.okWide Tryz.prog W .any base t v := hval0
  have hW' := hW
  obtain ⟨p, q, hA0, hV, rfl, hfz, hnd⟩ := hW
  have hA : DataW.TrodAll enc Tryz.prog W 0 (fun _ => true) true Tryz.f6.params.toList args.toList ds p := hA0
  rw [Tryz.params6] at hA hval hwt
  obtain ⟨v0, vs0, d0, ds0, p0, q0, hargs, rfl, rfl, h0, r0⟩ := trodAll_cons hA
  obtain ⟨rfl, rfl, rfl⟩ := trodAll_nil r0
  obtain rfl : args = #[v0] := by cases args; simp_all
  obtain ⟨rfl, rfl⟩ := trodVars_none hV
  have hwl : ∀ z, (z ∈ d0.weights Tryz.prog 9 → z ≤ reachBytes) := fun z => by
    have h := List.all_eq_true.1 hwt z
    simp only [decide_eq_true_eq] at h
    refine fun hz => h ?_
    all_goals
      simp only [List.cons_append, List.nil_append, List.toList_toArray, List.append_nil, DataW.weightsEach, List.mem_append]
      simp [hz]
  have k0 := h0
  have lt0 : ∀ x ∈ p0, x.block < W.heap.size := by obtain ⟨m, hm⟩ := k0; exact DataW.trod_lt m _ _ _ hm
  obtain ⟨a0, rfl, _, _, w0⟩ := open_string Tryz.underlying9 (hval 0 9 v0 rfl rfl) h0
  clear hA0 hval0
  refine (walk W a0 w0 hT.1 hT.2).mono fun e W' ⟨he, bel⟩ => ?_
  subst he
  exact ⟨_, rfl, _, _, _, [], _, [], hW', (trodAll_cons_mk (shut_bool Tryz.underlying4 _) trodAll_mk0), (trodAll_cons_mk (Below.trod laidOut (by kernel_rfl) (of_decide_eq_true (by kernel_rfl)) k0 bel lt0) trodAll_mk0), rfl, bel.frame _, fun h => by cases h⟩

theorem over : Rows.eightOnceRow.holds Tryz.pinned (OpenSpec.ofChange Rows.eightOnceSpec) :=
  OpenClaim.holds_of_wide 6 Tryz.f6 rfl rfl rfl rfl rfl rfl rfl ⟨rfl, rfl, rfl, rfl, rfl⟩ rfl rfl rfl rfl rfl (by kernel_rfl) Tryz.func6 (by kernel_rfl)
    (of_decide_eq_true (by kernel_rfl)) (by unfold Func.isWrapper; first | (rw [if_pos (by decide +kernel)]; kernel_rfl) | (rw [if_neg (by decide +kernel)]; exact ⟨rfl, rfl⟩))
    (fun os started H enc _ => lifted os started H enc)

/-- The row's statement. -/
theorem proved : Rows.EightOnceSaid := over
end Go.Proofs.YtpmnepihaljamaaGreatDoor.eightOnce
namespace Go.Proofs.YtpmnepihaljamaaGreatDoor
theorem eightOnce_holds : Rows.EightOnceCardSaid :=
  Claim7.holds_tied_plain_at .later [] [.data, .data, .data, .data, .data, .pinned] true (true, "122e963fb66ddac7511cf8e03ec72daa6168b7b23aebada0a115fea26b40cd7f") false
    eightOnce.proved (fun _ h => by cases h) (by kernel_rfl) (fun _ h => by cases h) eightOnce_row_tie rfl ⟨rfl, rfl⟩ (by kernel_rfl) rfl
    (fun f fn hf hfn => by
      obtain rfl : f = 6 := Option.some.inj ((show Tryz.prog.funcNamed "leechbook/leechbooklaw08.EightOnce" = some 6 by kernel_rfl).symm.trans hf) |>.symm
      obtain rfl : fn = Tryz.f6 := (Option.some.inj (Tryz.func6.symm.trans hfn)).symm
      exact ⟨by kernel_rfl, fun j t ht => by
        rw [Tryz.params6] at ht
        have hm : t ∈ [9] := by simpa using Array.mem_of_getElem? ht
        have hall : ([9].all fun u => !Tryz.prog.wantsStandIn u) = true := by kernel_rfl
        exact (show Tryz.prog.wantsStandIn t = false by simpa using List.all_eq_true.1 hall t hm)⟩)
    (by kernel_rfl)
#print axioms eightOnce_holds
end Go.Proofs.YtpmnepihaljamaaGreatDoor
