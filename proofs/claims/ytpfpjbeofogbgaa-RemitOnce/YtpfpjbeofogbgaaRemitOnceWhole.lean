/-
  The statement RemitOnce (21.5): told in two steps it comes to the same; for all that was told, all entries, all that is held.
-/
import Derived.WalkKit
import Derived.ProofKit
import Derived.OpenShut
import Derived.ShutString
import Derived.Below
import Derived.Carry
import Derived.Laws.Cover2
import Derived.HandedShaped
import Derived.Test.YtpfpjbeofogbgaaRows
import Derived.Test.YtpfpjbeofogbgaaMg1
import Derived.Test.YtpfpjbeofogbgaaMg2
import Derived.Test.YtpfpjbeofogbgaaMg3
import Derived.Test.YtpfpjbeofogbgaaMg4
import Derived.Test.YtpfpjbeofogbgaaMg5
import Derived.Test.YtpfpjbeofogbgaaMg6
import Derived.Test.YtpfpjbeofogbgaaMg7
import Derived.Test.YtpfpjbeofogbgaaMg8
import Derived.Test.YtpfpjbeofogbgaaMg9
import Derived.Test.YtpfpjbeofogbgaaMg10
import Derived.Test.YtpfpjbeofogbgaaMg11
import Derived.Test.YtpfpjbeofogbgaaMg12
import Derived.Test.YtpfpjbeofogbgaaMg13
import Derived.Test.YtpfpjbeofogbgaaMg14
import Derived.Test.YtpfpjbeofogbgaaMg15
import Derived.Test.YtpfpjbeofogbgaaMg16
import Derived.Test.YtpfpjbeofogbgaaMg17
import Derived.Test.YtpfpjbeofogbgaaMg18
import Derived.Test.YtpfpjbeofogbgaaMg19
import Derived.Test.YtpfpjbeofogbgaaMg20
import Derived.Test.YtpfpjbeofogbgaaMg21
import Derived.Test.YtpfpjbeofogbgaaMg22
import Derived.Test.YtpfpjbeofogbgaaMg23
import Derived.Test.YtpfpjbeofogbgaaMg24
import Derived.Test.YtpfpjbeofogbgaaMg25
import Derived.Test.YtpfpjbeofogbgaaMg26
import Derived.Test.YtpfpjbeofogbgaaMg27
import Derived.Test.YtpfpjbeofogbgaaMg28
import Derived.Test.YtpfpjbeofogbgaaMg29
import Derived.Test.YtpfpjbeofogbgaaMg30
namespace Go.Proofs.Ytpfpjbeofogbgaa.remitOnce
open Go.ChangeShapes Go.WideShapes Go.ChangeAt Go.RowKit
open Sv (Ca Sr Cp SvsAt CasAt CpsAt CpCells cpv cpe cp0 four six CpOk checkE Bd Sm I64)
open Re
open Bk (keepB below_alloc below_trans alloc_new)
open Go.ChangeMaps (open_string)
set_option linter.unusedVariables false
set_option linter.unusedSimpArgs false
set_option maxRecDepth 100000

theorem own : ownKnob Try.prog.godebug = none := by kernel_rfl

/-! ### the walk: the law returns true -/
set_option maxHeartbeats 16000000 in
theorem walk (w : World) (a0 : Int) (z0 : Sv.I64 a0) (v1 : Value) (l1 : List Cp) (h1 : CpsAt All w v1 l1) (y1 : l1.length ≤ 281474976710656) (z1 : ∀ x ∈ l1, So.OpC x) (v2 : Value) (l2 : List Bk.En) (h2 : Bk.EnsAt All w v2 l2) (z2 : ∀ x ∈ l2, Bk.EnOk x) (v3 : Value) (l3 : List Bk.En) (h3 : Bk.EnsAt All w v3 l3) (z3 : ∀ x ∈ l3, Bk.EnOk x) (a4 : Int) (z4 : Sv.I64 a4) :
    Calls Try.prog 8 #[.int .i64 a0, v1, v2, v3, .int .i64 a4] w fun e w' => e = .returned (.bool true) ∧ Below w.heap.size w w' := by
  have HW := Lib.hid works_any
  obtain ⟨ta, tc, rfl, t1, t2⟩ := h1.form
  obtain ⟨fa, fc, rfl, f1, f2⟩ := h2.form
  obtain ⟨a, cap, rfl, g1, g2⟩ := h3.form
  have HT : Hid (∀ w', Below w.heap.size w w' → CpsAt All w' (.slice ta l1.length tc) l1) := fun w' hb => h1.grw hb
  have HF : Hid (∀ w', Below w.heap.size w w' → Bk.EnsAt All w' (.slice fa l2.length fc) l2) := fun w' hb => h2.grw hb
  have HE : Hid (∀ w', Below w.heap.size w w' → Bk.EnsAt All w' (.slice a l3.length cap) l3) := fun w' hb => h3.grw hb
  have HZT : Hid (∀ x ∈ l1, CpOk x) := fun x hx => (z1 x hx).1
  have HZF := Lib.hid z2
  have HZ := Lib.hid z3
  have HI4 := Lib.hid z4
  have HLI := Lib.hid (light_any l1 l3 _ _ w h1 h3 (fun x hx => (z1 x hx).2) z3)
  have HLF := Lib.hid fun w' hb => light_any [] l2 (.slice none 0 0) _ w' (cps_nil _ _) (HF.out w' hb) (fun x hx => by cases hx) z2
  have HTE := Lib.hid fun w' hb => twice_any l3 _ w' (HE.out w' hb) z3
  have HTF := Lib.hid fun w' hb => twice_any l2 _ w' (HF.out w' hb) z2
  clear h1 h2 h3 z1 z2 z3 z4
  go_enter Try.func8, Try.ntmps8
  go_wp2_with fail
  try (go_at_call 9)
  refine HLI.out.mono ?_
  rintro e w1 ⟨⟨b, rfl, hb⟩, hbw⟩
  have HBX := Lib.hid hbw
  have HB1 := Lib.hid hbw
  have HLP := Lib.hid hb
  clear hbw hb HLI
  cases b with
  | false =>
    go_wp2_with (first | (go_at_call 10; refine (HW.out _).mono ?_; rintro e w9 ⟨rfl, hb⟩; have HB9 : Hid (Below w.heap.size w w9) := below_trans HBX.out hb; clear hb))
    go_ret
    exact ⟨rfl, HB9.out⟩
  | true =>
  go_wp2_with fail
  try (go_at_call 9)
  refine (HLF.out w1 HB1.out).mono ?_
  rintro e w2 ⟨⟨b, rfl, hb⟩, hbw⟩
  clear HBX
  have HBX : Hid (Below w.heap.size w w2) := below_trans HB1.out hbw
  have HB2 := Lib.hid HBX.out
  have HLQ := Lib.hid hb
  clear hbw hb HLF HB1
  cases b with
  | false =>
    go_wp2_with (first | (go_at_call 10; refine (HW.out _).mono ?_; rintro e w9 ⟨rfl, hb⟩; have HB9 : Hid (Below w.heap.size w w9) := below_trans HBX.out hb; clear hb))
    go_ret
    exact ⟨rfl, HB9.out⟩
  | true =>
  go_wp2_with fail
  try (go_at_call 21)
  refine (HTE.out w2 HB2.out).mono ?_
  rintro e w3 ⟨⟨b, rfl, hb⟩, hbw⟩
  clear HBX
  have HBX : Hid (Below w.heap.size w w3) := below_trans HB2.out hbw
  have HB3 := Lib.hid HBX.out
  clear hbw hb HTE HB2
  cases b with
  | true =>
    go_wp2_with (first | (go_at_call 10; refine (HW.out _).mono ?_; rintro e w9 ⟨rfl, hb⟩; have HB9 : Hid (Below w.heap.size w w9) := below_trans HBX.out hb; clear hb))
    go_ret
    exact ⟨rfl, HB9.out⟩
  | false =>
  go_wp2_with fail
  try (go_at_call 21)
  refine (HTF.out w3 HB3.out).mono ?_
  rintro e w4 ⟨⟨b, rfl, hb⟩, hbw⟩
  clear HBX
  have HBX : Hid (Below w.heap.size w w4) := below_trans HB3.out hbw
  have HB4 := Lib.hid HBX.out
  have HTW := Lib.hid hb
  clear hbw hb HTF HB3
  cases b with
  | true =>
    go_wp2_with (first | (go_at_call 10; refine (HW.out _).mono ?_; rintro e w9 ⟨rfl, hb⟩; have HB9 : Hid (Below w.heap.size w w9) := below_trans HBX.out hb; clear hb))
    go_ret
    exact ⟨rfl, HB9.out⟩
  | false =>
  obtain ⟨hl1, hl3, hs3⟩ := HLP.out (by first | rfl | trivial)
  obtain ⟨-, hl2, hs2⟩ := HLQ.out (by first | rfl | trivial)
  have HND := Lib.hid (HTW.out (by first | rfl | trivial))
  have HNK := Lib.hid (makeN_ok (n := a0) (told := l1) (l := l2) (held := a4))
  have HKI := Lib.hid (makeK_i64 (n := a0) (told := l1) (l := l2) (held := a4) (by omega))
  have HM1 : Hid (∀ w', Below w.heap.size w w' → Calls Try.prog 11 #[.int .i64 a0, .slice ta l1.length tc, .slice fa l2.length fc, .int .i64 a4] w' fun e w'' => MkV a0 l1 l2 a4 w' e w'') := fun w' hb => make_any a0 l1 l2 a4 _ _ w' (HT.out w' hb) (HF.out w' hb) HZT.out HZF.out (fun y hy => (hs2 y hy).1) (by omega) (by omega) HI4.out
  have HM2 : Hid (∀ w' vt, Below w.heap.size w w' → CpsAt All w' vt (makeN a0 l1 l2 a4) → Calls Try.prog 11 #[.int .i64 a0, vt, .slice a l3.length cap, .int .i64 (makeK a0 l1 l2 a4)] w' fun e w'' => MkV a0 (makeN a0 l1 l2 a4) l3 (makeK a0 l1 l2 a4) w' e w'') := fun w' vt hb hv => make_any a0 (makeN a0 l1 l2 a4) l3 (makeK a0 l1 l2 a4) vt _ w' hv (HE.out w' hb) HNK.out.1 HZ.out (fun y hy => (hs3 y hy).1) (by have := HNK.out.2; omega) (by omega) HKI.out
  have HM3 : Hid (∀ w', Below w.heap.size w w' → Calls Try.prog 11 #[.int .i64 a0, .slice ta l1.length tc, .slice a l3.length cap, .int .i64 a4] w' fun e w'' => MkV a0 l1 l3 a4 w' e w'') := fun w' hb => make_any a0 l1 l3 a4 _ _ w' (HT.out w' hb) (HE.out w' hb) HZT.out HZ.out (fun y hy => (hs3 y hy).1) (by omega) (by omega) HI4.out
  have HFIN := Lib.hid fun h1 h2 h3 => once_ok (n := a0) (held := a4) (told := l1) (a := l2) (b := l3) (by omega) (by omega) HND.out h1 h2 h3
  unfold MkV at HM1 HM2 HM3
  clear HT HF HE HZT HZF HZ HI4 HLP HLQ HTW HND HNK HKI hs2 hs3 HB4
  generalize makeE a0 (makeN a0 l1 l2 a4) l3 (makeK a0 l1 l2 a4) = E2 at *
  generalize makeR a0 (makeN a0 l1 l2 a4) l3 (makeK a0 l1 l2 a4) = R2 at *
  generalize makeN a0 (makeN a0 l1 l2 a4) l3 (makeK a0 l1 l2 a4) = N2 at *
  generalize makeK a0 (makeN a0 l1 l2 a4) l3 (makeK a0 l1 l2 a4) = K2 at *
  generalize makeE a0 l1 l2 a4 = E1 at *
  generalize makeR a0 l1 l2 a4 = R1 at *
  generalize makeN a0 l1 l2 a4 = N1 at *
  generalize makeK a0 l1 l2 a4 = K1 at *
  generalize makeE a0 l1 l3 a4 = E3 at *
  generalize makeR a0 l1 l3 a4 = R3 at *
  generalize makeN a0 l1 l3 a4 = N3 at *
  generalize makeK a0 l1 l3 a4 = K3 at *
  go_upto_region 4 with (first | (go_at_call 11; refine (HM1.out w4 HBX.out).mono ?_; rintro e y1 ⟨⟨mm, vv, rfl, hm1, hm2⟩, hb2⟩; obtain ⟨m1, k1, rfl, -, -⟩ := hm1.form; obtain ⟨v1, j1, rfl, -, -⟩ := hm2.form; have HV1 : Hid (CpsAt All y1 (.slice v1 N1.length j1) N1) := CpsAt.all hm2; have HY1 : Hid (Below w4.heap.size w4 y1) := hb2; clear hm1 hm2 hb2))
  have HX1 := Lib.hid (alloc_new y1 (rme R1 (.slice m1 R1.cs.length k1)) 27)
  have HN1 : Hid (Below w4.heap.size w4 (y1.alloc (.cells (rme R1 (.slice m1 R1.cs.length k1)) 27))) := below_trans HY1.out (below_alloc y1 _)
  have HVV1 : Hid (CpsAt All (y1.alloc (.cells (rme R1 (.slice m1 R1.cs.length k1)) 27)) (.slice v1 N1.length j1) N1) := HV1.out.grw (below_alloc y1 _)
  clear HV1 HY1
  generalize hq1 : y1.heap.size = q1 at *
  generalize y1.alloc (.cells (rme R1 (.slice m1 R1.cs.length k1)) 27) = W1 at *
  have HB5 : Hid (Below w.heap.size w W1) := below_trans HBX.out HN1.out
  go_upto_region 5 with (first | (go_at_call 11; refine (HM2.out W1 _ HB5.out HVV1.out).mono ?_; rintro e y2 ⟨⟨mm, vv, rfl, hm1, hm2⟩, hb2⟩; obtain ⟨m2, k2, rfl, -, -⟩ := hm1.form; obtain ⟨v2, j2, rfl, -, -⟩ := hm2.form; have HV2 : Hid (CpsAt All y2 (.slice v2 N2.length j2) N2) := CpsAt.all hm2; have HY2 : Hid (Below W1.heap.size W1 y2) := hb2; clear hm1 hm2 hb2))
  have HX2 := Lib.hid (alloc_new y2 (rme R2 (.slice m2 R2.cs.length k2)) 27)
  have HN2 : Hid (Below W1.heap.size W1 (y2.alloc (.cells (rme R2 (.slice m2 R2.cs.length k2)) 27))) := below_trans HY2.out (below_alloc y2 _)
  have HVV2 : Hid (CpsAt All (y2.alloc (.cells (rme R2 (.slice m2 R2.cs.length k2)) 27)) (.slice v2 N2.length j2) N2) := HV2.out.grw (below_alloc y2 _)
  clear HV2 HY2
  generalize hq2 : y2.heap.size = q2 at *
  generalize y2.alloc (.cells (rme R2 (.slice m2 R2.cs.length k2)) 27) = W2 at *
  have HB6 : Hid (Below w.heap.size w W2) := below_trans HB5.out HN2.out
  go_upto_region 6 with (first | (go_at_call 11; refine (HM3.out W2 HB6.out).mono ?_; rintro e y3 ⟨⟨mm, vv, rfl, hm1, hm2⟩, hb2⟩; obtain ⟨m3, k3, rfl, -, -⟩ := hm1.form; obtain ⟨v3, j3, rfl, -, -⟩ := hm2.form; have HV3 : Hid (CpsAt All y3 (.slice v3 N3.length j3) N3) := CpsAt.all hm2; have HY3 : Hid (Below W2.heap.size W2 y3) := hb2; clear hm1 hm2 hb2))
  have HX3 := Lib.hid (alloc_new y3 (rme R3 (.slice m3 R3.cs.length k3)) 27)
  have HN3 : Hid (Below W2.heap.size W2 (y3.alloc (.cells (rme R3 (.slice m3 R3.cs.length k3)) 27))) := below_trans HY3.out (below_alloc y3 _)
  have HVV3 : Hid (CpsAt All (y3.alloc (.cells (rme R3 (.slice m3 R3.cs.length k3)) 27)) (.slice v3 N3.length j3) N3) := HV3.out.grw (below_alloc y3 _)
  clear HV3 HY3
  generalize hq3 : y3.heap.size = q3 at *
  generalize y3.alloc (.cells (rme R3 (.slice m3 R3.cs.length k3)) 27) = W3 at *
  clear HBX
  have HBX : Hid (Below w.heap.size w W3) := below_trans HB6.out HN3.out
  have HX13 := Lib.hid (keepB (keepB HX1.out HN2.out) HN3.out)
  have HX23 := Lib.hid (keepB HX2.out HN3.out)
  have HV23 := Lib.hid (HVV2.out.grw HN3.out)
  clear HM1 HM2 HM3 HB5 HB6 HN1 HN2 HN3 HX1 HX2 HVV1 HVV2
  by_cases h1 : E1 = 0
  case neg =>
    have hb1 : (E1 != 0) = true := by simpa using h1
    clear HFIN h1
    go_wp2_with (first | (go_at_call 10; refine (HW.out _).mono ?_; rintro e w9 ⟨rfl, hb⟩; have HB9 : Hid (Below w.heap.size w w9) := below_trans HBX.out hb; clear hb))
    go_ret
    exact ⟨rfl, HB9.out⟩
  have hb1 : (E1 != 0) = false := by simpa using h1
  by_cases h2 : E2 = 0
  case neg =>
    have hb2 : (E2 != 0) = true := by simpa using h2
    clear HFIN h1 h2
    go_wp2_with (first | (go_at_call 10; refine (HW.out _).mono ?_; rintro e w9 ⟨rfl, hb⟩; have HB9 : Hid (Below w.heap.size w w9) := below_trans HBX.out hb; clear hb))
    go_ret
    exact ⟨rfl, HB9.out⟩
  have hb2 : (E2 != 0) = false := by simpa using h2
  by_cases h3 : E3 = 0
  case neg =>
    have hb3 : (E3 != 0) = true := by simpa using h3
    clear HFIN h1 h2 h3
    go_wp2_with (first | (go_at_call 10; refine (HW.out _).mono ?_; rintro e w9 ⟨rfl, hb⟩; have HB9 : Hid (Below w.heap.size w w9) := below_trans HBX.out hb; clear hb))
    go_ret
    exact ⟨rfl, HB9.out⟩
  have hb3 : (E3 != 0) = false := by simpa using h3
  obtain ⟨rfl, X, hw1, hw2, hw3⟩ := HFIN.out h1 h2 h3
  clear HFIN h1 h2 h3
  have HSA : Hid (Calls Try.prog 14 #[.slice v2 N2.length j2, .slice v3 N2.length j3] W3 fun e w' => e = .returned (.bool true) ∧ Below W3.heap.size W3 w') := sameall_eq N2 _ _ W3 HV23.out HVV3.out
  clear HV23 HVV3
  go_wp2_with fail
  try (go_at_call 14)
  refine HSA.out.mono ?_
  rintro e w8 ⟨rfl, hb8⟩
  obtain ⟨x0, x1, x2, x3⟩ := four (keepB HX13.out hb8)
  obtain ⟨y0, y1, y2, y3⟩ := four (keepB HX23.out hb8)
  obtain ⟨z0, z1, z2, z3⟩ := four (keepB HX3.out hb8)
  have HB8 : Hid (Below w.heap.size w w8) := below_trans HBX.out hb8
  clear HBX
  have HBX := Lib.hid HB8.out
  clear hb8 HX13 HX23 HX3
  go_wp2_with (first | (go_at_call 10; refine (HW.out _).mono ?_; rintro e w9 ⟨rfl, hb⟩; have HB9 : Hid (Below w.heap.size w w9) := below_trans HBX.out hb; clear hb))
  go_ret
  exact ⟨rfl, HB9.out⟩

/-! ### the row's step -/
theorem laidOut : laidOutB Try.prog = true := by kernel_rfl
theorem lifted (os : Os) (started : os.Started) (H : Type) (enc : TypeId × Value → H) :
    ReturnsInHanded {} Try.checked os 8 .any (Rows.remitOnceSpec.pre6 enc Try.prog Try.f8 Rows.remitOnceRow.domain false) (Rows.remitOnceSpec.post enc Try.prog Try.f8 false true false false) := by
  refine returnsInHanded_of_change_shaped (C := Try.checked) own started (by kernel_rfl) Try.func8
    (ChangeSpec.witness6 (enc := enc) (C := Try.checked) false ⟨#[], #[.int .i64 0, .slice none 0 0, .slice none 0 0, .slice none 0 0, .int .i64 0], []⟩ 8 (by kernel_rfl) (by kernel_rfl) (by kernel_rfl) (by kernel_rfl)) ?_
  intro W base args ds gs before hval0 hW hcnd hwt _ _
  have hval : ∀ (j : Nat) t v, Try.f8.params[j]? = some t → args[j]? = some v → Value.okWide Try.prog W .any base t v := hval0
  have hW' := hW
  obtain ⟨p, q, hA0, hV, rfl, hfz, hnd⟩ := hW
  have hA : DataW.TrodAll enc Try.prog W 0 (fun _ => true) true Try.f8.params.toList args.toList ds p := hA0
  rw [Try.params8] at hA hval hwt
  obtain ⟨v0, vs0, d0, ds0, p0, q0, hargs, rfl, rfl, h0, r0⟩ := trodAll_cons hA
  obtain ⟨v1, vs1, d1, ds1, p1, q1, rfl, rfl, rfl, h1, r1⟩ := trodAll_cons r0
  obtain ⟨v2, vs2, d2, ds2, p2, q2, rfl, rfl, rfl, h2, r2⟩ := trodAll_cons r1
  obtain ⟨v3, vs3, d3, ds3, p3, q3, rfl, rfl, rfl, h3, r3⟩ := trodAll_cons r2
  obtain ⟨v4, vs4, d4, ds4, p4, q4, rfl, rfl, rfl, h4, r4⟩ := trodAll_cons r3
  obtain ⟨rfl, rfl, rfl⟩ := trodAll_nil r4
  obtain rfl : args = #[v0, v1, v2, v3, v4] := by cases args; simp_all
  obtain ⟨rfl, rfl⟩ := trodVars_none hV
  have hwl : ∀ z, (z ∈ d0.weights Try.prog 3 → z ≤ reachBytes) ∧ (z ∈ d1.weights Try.prog 22 → z ≤ reachBytes) ∧ (z ∈ d2.weights Try.prog 23 → z ≤ reachBytes) ∧ (z ∈ d3.weights Try.prog 23 → z ≤ reachBytes) ∧ (z ∈ d4.weights Try.prog 2 → z ≤ reachBytes) := fun z => by
    have h := List.all_eq_true.1 hwt z
    simp only [decide_eq_true_eq] at h
    refine ⟨fun hz => h ?_, fun hz => h ?_, fun hz => h ?_, fun hz => h ?_, fun hz => h ?_⟩
    all_goals
      simp only [List.cons_append, List.nil_append, List.toList_toArray, List.append_nil, DataW.weightsEach, List.mem_append]
      first | exact Or.inl hz | exact Or.inr (Or.inl hz) | exact Or.inr (Or.inr (Or.inl hz)) | exact Or.inr (Or.inr (Or.inr (Or.inl hz))) | exact Or.inr (Or.inr (Or.inr (Or.inr (Or.inl hz)))) | exact Or.inr (Or.inr (Or.inr (Or.inr (Or.inr (Or.inl hz))))) | exact Or.inr (Or.inr (Or.inr (Or.inr (Or.inr (Or.inr (Or.inl hz)))))) | simp [hz]
  have k0 := h0
  have lt0 : ∀ x ∈ p0, x.block < W.heap.size := by obtain ⟨m, hm⟩ := k0; exact DataW.trod_lt m _ _ _ hm
  obtain ⟨a0, rfl, _, _, w0⟩ := open_int Try.underlying3 (hval 0 3 v0 rfl rfl) h0
  have k1 := h1
  have lt1 : ∀ x ∈ p1, x.block < W.heap.size := by obtain ⟨m, hm⟩ := k1; exact DataW.trod_lt m _ _ _ hm
  obtain ⟨l1, g1, y1, z1⟩ := So.open_cps (okWide_slice Try.underlying22 (hval 1 22 v1 rfl rfl)) h1 (fun z hz => (hwl z).2.1 hz)
  have k2 := h2
  have lt2 : ∀ x ∈ p2, x.block < W.heap.size := by obtain ⟨m, hm⟩ := k2; exact DataW.trod_lt m _ _ _ hm
  obtain ⟨l2, g2, z2⟩ := So.open_ens (okWide_slice Try.underlying23 (hval 2 23 v2 rfl rfl)) h2 (fun z hz => (hwl z).2.2.1 hz)
  have k3 := h3
  have lt3 : ∀ x ∈ p3, x.block < W.heap.size := by obtain ⟨m, hm⟩ := k3; exact DataW.trod_lt m _ _ _ hm
  obtain ⟨l3, g3, z3⟩ := So.open_ens (okWide_slice Try.underlying23 (hval 3 23 v3 rfl rfl)) h3 (fun z hz => (hwl z).2.2.2.1 hz)
  have k4 := h4
  have lt4 : ∀ x ∈ p4, x.block < W.heap.size := by obtain ⟨m, hm⟩ := k4; exact DataW.trod_lt m _ _ _ hm
  obtain ⟨a4, rfl, _, _, w4⟩ := open_int Try.underlying2 (hval 4 2 v4 rfl rfl) h4
  clear hA0 hval0
  refine (walk W a0 (i64_wf w0) v1 l1 g1 y1 z1 v2 l2 g2 z2 v3 l3 g3 z3 a4 (i64_wf w4)).mono fun e W' ⟨he, bel⟩ => ?_
  subst he
  exact ⟨_, rfl, _, _, _, [], _, [], hW', (trodAll_cons_mk (shut_bool Try.underlying4 _) trodAll_mk0), (trodAll_cons_mk (Below.trod laidOut (by kernel_rfl) (of_decide_eq_true (by kernel_rfl)) k0 bel lt0) (trodAll_cons_mk (Below.trod laidOut (by kernel_rfl) (of_decide_eq_true (by kernel_rfl)) k1 bel lt1) (trodAll_cons_mk (Below.trod laidOut (by kernel_rfl) (of_decide_eq_true (by kernel_rfl)) k2 bel lt2) (trodAll_cons_mk (Below.trod laidOut (by kernel_rfl) (of_decide_eq_true (by kernel_rfl)) k3 bel lt3) (trodAll_cons_mk (Below.trod laidOut (by kernel_rfl) (of_decide_eq_true (by kernel_rfl)) k4 bel lt4) trodAll_mk0))))), rfl, bel.frame _, fun h => by cases h⟩

theorem over : Rows.remitOnceRow.holds Try.pinned (OpenSpec.ofChange Rows.remitOnceSpec) :=
  OpenClaim.holds_of_wide 8 Try.f8 rfl rfl rfl rfl rfl rfl rfl ⟨rfl, rfl, rfl, rfl, rfl⟩ rfl rfl rfl rfl rfl (by kernel_rfl) Try.func8 (by kernel_rfl)
    (of_decide_eq_true (by kernel_rfl)) (by unfold Func.isWrapper; first | (rw [if_pos (by decide +kernel)]; kernel_rfl) | (rw [if_neg (by decide +kernel)]; exact ⟨rfl, rfl⟩))
    (fun os started H enc _ => lifted os started H enc)

/-- The statement. -/
theorem proved : Rows.RemitOnceSaid := over
end Go.Proofs.Ytpfpjbeofogbgaa.remitOnce
namespace Go.Proofs.Ytpfpjbeofogbgaa
theorem remitOnce_holds : Rows.RemitOnceSaid := remitOnce.proved
#print axioms remitOnce_holds
end Go.Proofs.Ytpfpjbeofogbgaa
