/-
  The statement RemitRuns (21.5): what was paid is what is owed; for all that was told, all entries, all that is held, all numbers.
-/
import Derived.WalkKit
import Derived.ProofKit
import Derived.OpenShut
import Derived.ShutString
import Derived.Below
import Derived.Carry
import Derived.Laws.Cover2
import Derived.HandedShaped
import Derived.Test.YtpfpjbeofogbgaaRows
import Derived.Test.YtpfpjbeofogbgaaMg1
import Derived.Test.YtpfpjbeofogbgaaMg2
import Derived.Test.YtpfpjbeofogbgaaMg3
import Derived.Test.YtpfpjbeofogbgaaMg4
import Derived.Test.YtpfpjbeofogbgaaMg5
import Derived.Test.YtpfpjbeofogbgaaMg6
import Derived.Test.YtpfpjbeofogbgaaMg7
import Derived.Test.YtpfpjbeofogbgaaMg8
import Derived.Test.YtpfpjbeofogbgaaMg9
import Derived.Test.YtpfpjbeofogbgaaMg10
import Derived.Test.YtpfpjbeofogbgaaMg11
import Derived.Test.YtpfpjbeofogbgaaMg12
import Derived.Test.YtpfpjbeofogbgaaMg13
import Derived.Test.YtpfpjbeofogbgaaMg14
import Derived.Test.YtpfpjbeofogbgaaMg15
import Derived.Test.YtpfpjbeofogbgaaMg16
import Derived.Test.YtpfpjbeofogbgaaMg17
import Derived.Test.YtpfpjbeofogbgaaMg18
import Derived.Test.YtpfpjbeofogbgaaMg19
import Derived.Test.YtpfpjbeofogbgaaMg20
import Derived.Test.YtpfpjbeofogbgaaMg21
import Derived.Test.YtpfpjbeofogbgaaMg22
import Derived.Test.YtpfpjbeofogbgaaMg23
import Derived.Test.YtpfpjbeofogbgaaMg24
import Derived.Test.YtpfpjbeofogbgaaMg25
import Derived.Test.YtpfpjbeofogbgaaMg26
import Derived.Test.YtpfpjbeofogbgaaMg27
import Derived.Test.YtpfpjbeofogbgaaMg28
import Derived.Test.YtpfpjbeofogbgaaMg29
import Derived.Test.YtpfpjbeofogbgaaMg30
namespace Go.Proofs.Ytpfpjbeofogbgaa.remitRuns
open Go.ChangeShapes Go.WideShapes Go.ChangeAt Go.RowKit
open Sv (Ca Sr Cp SvsAt CasAt CpsAt CpCells cpv cpe cp0 four six CpOk checkE Bd Sm I64)
open Re
open Bk (keepB below_alloc below_trans alloc_new)
open Go.ChangeMaps (open_string)
set_option linter.unusedVariables false
set_option linter.unusedSimpArgs false
set_option maxRecDepth 100000

theorem own : ownKnob Try.prog.godebug = none := by kernel_rfl

/-! ### the walk: the law returns true -/
set_option maxHeartbeats 16000000 in
theorem walk (w : World) (a0 : Int) (z0 : Sv.I64 a0) (v1 : Value) (l1 : List Cp) (h1 : CpsAt All w v1 l1) (y1 : l1.length ≤ 281474976710656) (z1 : ∀ x ∈ l1, So.OpC x) (v2 : Value) (l2 : List Bk.En) (h2 : Bk.EnsAt All w v2 l2) (z2 : ∀ x ∈ l2, Bk.EnOk x) (a3 : Int) (z3 : Sv.I64 a3) (t4 : Tx) (z4 : t4.length ≤ 281474976710656) :
    Calls Try.prog 7 #[.int .i64 a0, v1, v2, .int .i64 a3, .string (mk t4)] w fun e w' => e = .returned (.bool true) ∧ Below w.heap.size w w' := by
  have HW := Lib.hid works_any
  obtain ⟨ta, tc, rfl, t1, t2⟩ := h1.form
  obtain ⟨a, cap, rfl, g1, g2⟩ := h2.form
  have HT : Hid (∀ w', Below w.heap.size w w' → CpsAt All w' (.slice ta l1.length tc) l1) := fun w' hb => h1.grw hb
  have HE : Hid (∀ w', Below w.heap.size w w' → Bk.EnsAt All w' (.slice a l2.length cap) l2) := fun w' hb => h2.grw hb
  have HZT : Hid (∀ x ∈ l1, CpOk x) := fun x hx => (z1 x hx).1
  have HZ := Lib.hid z2
  have HI3 := Lib.hid z3
  have HLI := Lib.hid (light_any l1 l2 _ _ w h1 h2 (fun x hx => (z1 x hx).2) z2)
  have HTE := Lib.hid fun w' hb => twice_any l2 _ w' (HE.out w' hb) z2
  clear h1 h2 z1 z2 z3
  go_enter Try.func7, Try.ntmps7
  go_wp2_with fail
  try (go_at_call 9)
  refine HLI.out.mono ?_
  rintro e w1 ⟨⟨b, rfl, hb⟩, hbw⟩
  have HBX := Lib.hid hbw
  have HB1 := Lib.hid hbw
  have HLP := Lib.hid hb
  clear hbw hb HLI
  cases b with
  | false =>
    go_wp2_with (first | (go_at_call 10; refine (HW.out _).mono ?_; rintro e w9 ⟨rfl, hb⟩; have HB9 : Hid (Below w.heap.size w w9) := below_trans HBX.out hb; clear hb))
    go_ret
    exact ⟨rfl, HB9.out⟩
  | true =>
  go_wp2_with fail
  try (go_at_call 21)
  refine (HTE.out w1 HB1.out).mono ?_
  rintro e w2 ⟨⟨b, rfl, -⟩, hbw⟩
  clear HBX
  have HBX : Hid (Below w.heap.size w w2) := below_trans HB1.out hbw
  clear hbw HTE HB1
  cases b with
  | true =>
    go_wp2_with (first | (go_at_call 10; refine (HW.out _).mono ?_; rintro e w9 ⟨rfl, hb⟩; have HB9 : Hid (Below w.heap.size w w9) := below_trans HBX.out hb; clear hb))
    go_ret
    exact ⟨rfl, HB9.out⟩
  | false =>
  obtain ⟨hl1, hl2, hs2⟩ := HLP.out (by first | rfl | trivial)
  have HLO : Hid (∀ y ∈ l2, y.outs.length ≤ 200) := fun y hy => (hs2 y hy).2
  have HM1 : Hid (Calls Try.prog 11 #[.int .i64 a0, .slice ta l1.length tc, .slice a l2.length cap, .int .i64 a3] w2 fun e w'' => MkV a0 l1 l2 a3 w2 e w'') := make_any a0 l1 l2 a3 _ _ w2 (HT.out w2 HBX.out) (HE.out w2 HBX.out) HZT.out HZ.out (fun y hy => (hs2 y hy).1) (by omega) (by omega) HI3.out
  have HFIN := Lib.hid fun h => runs_ok (n := a0) (held := a3) (told := l1) (l := l2) t4 h
  unfold MkV at HM1
  clear HZT HZ HI3 HLP hs2
  generalize makeE a0 l1 l2 a3 = E at *
  generalize makeR a0 l1 l2 a3 = R at *
  generalize makeN a0 l1 l2 a3 = N at *
  generalize makeK a0 l1 l2 a3 = K at *
  go_upto_region 4 with (first | (go_at_call 11; refine HM1.out.mono ?_; rintro e y1 ⟨⟨mm, vv, rfl, hm1, hm2⟩, hb2⟩; obtain ⟨m1, k1, rfl, -, -⟩ := hm1.form; obtain ⟨v1, j1, rfl, -, -⟩ := hm2.form; have HV1 : Hid (CpsAt All y1 (.slice m1 R.cs.length k1) R.cs) := CpsAt.all hm1; have HY1 : Hid (Below w2.heap.size w2 y1) := hb2; clear hm1 hm2 hb2))
  have HX1 := Lib.hid (alloc_new y1 (rme R (.slice m1 R.cs.length k1)) 27)
  have HB3 : Hid (Below w.heap.size w (y1.alloc (.cells (rme R (.slice m1 R.cs.length k1)) 27))) := below_trans HBX.out (below_trans HY1.out (below_alloc y1 _))
  have HVV : Hid (CpsAt All (y1.alloc (.cells (rme R (.slice m1 R.cs.length k1)) 27)) (.slice m1 R.cs.length k1) R.cs) := HV1.out.grw (below_alloc y1 _)
  clear HV1 HY1 HM1
  generalize hq1 : y1.heap.size = q at *
  generalize y1.alloc (.cells (rme R (.slice m1 R.cs.length k1)) 27) = W at *
  clear HBX
  have HBX := Lib.hid HB3.out
  by_cases h1 : E = 0
  case neg =>
    have hb1 : (E != 0) = true := by simpa using h1
    clear HFIN h1
    go_wp2_with (first | (go_at_call 10; refine (HW.out _).mono ?_; rintro e w9 ⟨rfl, hb⟩; have HB9 : Hid (Below w.heap.size w w9) := below_trans HBX.out hb; clear hb))
    go_ret
    exact ⟨rfl, HB9.out⟩
  have hb1 : (E != 0) = false := by simpa using h1
  obtain ⟨hrun, hrl, hpt, hpr, hpl⟩ := HFIN.out h1
  have HPT := Lib.hid hpt
  have HPR := Lib.hid hpr
  have HPL := Lib.hid hpl
  clear HFIN h1 hpt hpr hpl
  obtain ⟨s1, hs1⟩ : ∃ s, sumI t4 l1 = s := ⟨_, rfl⟩
  obtain ⟨s2, hs2⟩ : ∃ s, sumI t4 R.cs = s := ⟨_, rfl⟩
  obtain ⟨s3, hs3⟩ : ∃ s, owed t4 l2 = s := ⟨_, rfl⟩
  rw [hs1, hs2, hs3] at hrun
  have H1 : Hid (0 + sumI t4 (l1.drop 0) = s1) := by show _ = _; rw [List.drop_zero, hs1]; omega
  have H2 : Hid (sumI t4 (R.cs.drop 0) = s2) := by show _ = _; rw [List.drop_zero, hs2]
  have H3 : Hid (0 + owed t4 (l2.drop 0) = s3) := by show _ = _; rw [List.drop_zero, hs3]; omega
  clear hs1 hs2 hs3
  have HWK : Hid (∀ W', Below W.heap.size W W' → Below w.heap.size w W' ∧ W'.heap[q]? = some (.cells (rme R (.slice m1 R.cs.length k1)) 27 (0, 0)) ∧ CpsAt All W' (.slice m1 R.cs.length k1) R.cs) := fun W' hb => ⟨below_trans HB3.out hb, keepB HX1.out hb, HVV.out.grw hb⟩
  clear HB3 HX1 HVV
  have HRF := Lib.hid (Below.refl W.heap.size W)
  go_wp2
  go_loopg [15, 17] (l1.length) (fun gg t15 t17 wr => ∃ (k : Nat) (A : Int), k ≤ l1.length ∧ gg = l1.length - k ∧ t15 = .int .i64 A ∧ t17 = .int .i64 k ∧ (-10000000000000 * (k : Int) ≤ A ∧ A ≤ 10000000000000 * (k : Int)) ∧ Hid (A + sumI t4 (l1.drop k) = s1) ∧ Hid (Below W.heap.size W wr))
  case atStart => exact ⟨0, 0, Nat.zero_le _, rfl, rfl, rfl, by omega, H1.out, HRF.out⟩
  case round =>
    obtain ⟨k, A, hk, hg, rfl, rfl, ⟨hA1, hA2⟩, HS, HBk⟩ := hrel
    by_cases hlt : k < l1.length
    · have hltz : (k : Int) < (l1.length : Int) := by omega
      obtain ⟨b, o, m, rfl, -, hx, hcell, -⟩ := Sv.CpsAt.get (HT.out _ (HWK.out _ HBk.out).1) k hlt
      have HST := Lib.hid (sumI_step hx HS.out)
      have hbp := HPT.out _ (List.mem_of_getElem? hx)
      have e_id := Cm.mk_ne l1[k].id t4
      have hi1 : k < l1.length := hlt
      generalize l1[k] = x at *
      obtain ⟨c0, c1, c2, c3, c4, c5⟩ := hcell
      clear hx
      cases hB : decide (x.id = t4)
      · rw [hB] at e_id
        rw [if_neg (by simpa using hB), Int.add_zero] at HST
        clear hB
        go_wp2
        go_roundg (l1.length - (k + 1))
        case measure => omega
        case rel => exact ⟨k + 1, A, by omega, rfl, rfl, by go_num, by omega, HST.out, HBk.out⟩
      · rw [hB] at e_id
        rw [if_pos (by simpa using hB)] at HST
        clear hB
        go_wp2
        go_roundg (l1.length - (k + 1))
        case measure => omega
        case rel => exact ⟨k + 1, A + x.paid, by omega, rfl, rfl, by go_num, by omega, HST.out, HBk.out⟩
    have hltz : ¬ (k : Int) < (l1.length : Int) := by omega
    have hA := sumI_end (by omega) HS.out
    subst hA
    have HBk2 := Lib.hid HBk.out
    have H2' : Hid (A + sumI t4 (R.cs.drop 0) = A + s2) := by show _ = _; rw [H2.out]
    clear HS HT HPT H1 H2
    go_wp2
    go_loopg [15, 18] (R.cs.length) (fun gg t15 t18 wr => ∃ (k : Nat) (B : Int), k ≤ R.cs.length ∧ gg = R.cs.length - k ∧ t15 = .int .i64 B ∧ t18 = .int .i64 k ∧ (-10000000000000 * (200 + (k : Int)) ≤ B ∧ B ≤ 10000000000000 * (200 + (k : Int))) ∧ Hid (B + sumI t4 (R.cs.drop k) = A + s2) ∧ Hid (Below W.heap.size W wr))
    case atStart => exact ⟨0, A, Nat.zero_le _, rfl, rfl, rfl, by omega, H2'.out, HBk2.out⟩
    case round =>
      obtain ⟨k, B, hk, hg, rfl, rfl, ⟨hB1, hB2⟩, HS, HBk⟩ := hrel
      obtain ⟨-, hXq, hVq⟩ := HWK.out _ HBk.out
      obtain ⟨x0, x1, x2, x3⟩ := four hXq
      clear hXq
      by_cases hlt : k < R.cs.length
      · have hltz : (k : Int) < (R.cs.length : Int) := by omega
        obtain ⟨b, o, m, rfl, -, hx, hcell, -⟩ := Sv.CpsAt.get hVq k hlt
        have HST := Lib.hid (sumI_step hx HS.out)
        have hbp := HPR.out _ (List.mem_of_getElem? hx)
        have e_id := Cm.mk_ne R.cs[k].id t4
        have hi1 : k < R.cs.length := hlt
        generalize R.cs[k] = x at *
        obtain ⟨c0, c1, c2, c3, c4, c5⟩ := hcell
        clear hx hVq
        cases hB : decide (x.id = t4)
        · rw [hB] at e_id
          rw [if_neg (by simpa using hB), Int.add_zero] at HST
          clear hB
          go_wp2
          go_roundg (R.cs.length - (k + 1))
          case measure => omega
          case rel => exact ⟨k + 1, B, by omega, rfl, rfl, by go_num, by omega, HST.out, HBk.out⟩
        · rw [hB] at e_id
          rw [if_pos (by simpa using hB)] at HST
          clear hB
          go_wp2
          go_roundg (R.cs.length - (k + 1))
          case measure => omega
          case rel => exact ⟨k + 1, B + x.paid, by omega, rfl, rfl, by go_num, by omega, HST.out, HBk.out⟩
      have hltz : ¬ (k : Int) < (R.cs.length : Int) := by omega
      have hB := sumI_end (by omega) HS.out
      have HBk3 := Lib.hid HBk.out
      have hBs : B = s3 := by omega
      subst hBs
      clear HS hVq HPR hB
      go_wp2
      clear x0 x1 x2 x3
      go_loopg [16, 19] (l2.length) (fun gg t16 t19 wr => ∃ (k : Nat) (D : Int), k ≤ l2.length ∧ gg = l2.length - k ∧ t16 = .int .i64 D ∧ t19 = .int .i64 k ∧ (0 ≤ D ∧ D ≤ 10000000000000 * (200 * (k : Int))) ∧ Hid (D + owed t4 (l2.drop k) = B) ∧ Hid (Below W.heap.size W wr))
      case atStart => exact ⟨0, 0, Nat.zero_le _, rfl, rfl, rfl, by omega, H3.out, HBk3.out⟩
      case round =>
        obtain ⟨k, D, hk, hg, rfl, rfl, ⟨hD1, hD2⟩, HS, HBk⟩ := hrel
        by_cases hlt : k < l2.length
        case neg =>
          have hltz : ¬ (k : Int) < (l2.length : Int) := by omega
          have hD := owed_end (by omega) HS.out
          subst hD
          have HBX := Lib.hid (HWK.out _ HBk.out).1
          clear HS
          go_wp2_with (first | (go_at_call 10; refine (HW.out _).mono ?_; rintro e w9 ⟨rfl, hb⟩; have HB9 : Hid (Below w.heap.size w w9) := below_trans HBX.out hb; clear hb))
          go_ret
          exact ⟨rfl, HB9.out⟩
        have hltz : (k : Int) < (l2.length : Int) := by omega
        obtain ⟨b, o, m, mo, rfl, hbl, hx, hcell, -, hco⟩ := Bk.EnsAt.get (HE.out _ (HWK.out _ HBk.out).1) k hlt
        have HST := Lib.hid (owed_step hx HS.out)
        have hlo := HLO.out _ (List.mem_of_getElem? hx)
        have HPy := Lib.hid (HPL.out _ (List.mem_of_getElem? hx))
        have e_id := Cm.mk_ne l2[k].cl.id t4
        have hi1 : k < l2.length := hlt
        generalize l2[k] = y at *
        replace hco : Bk.OtsAt All wr mo y.outs := hco
        obtain ⟨ao, no, rfl, j1', j2'⟩ := hco.form
        obtain ⟨c0, c1, c2, c3, c4, c5, c6, c7, c8, c9⟩ := id hcell
        cases hB : decide (y.cl.id = t4)
        · rw [hB] at e_id
          rw [if_neg (fun h => by simp [h.1] at hB), Int.add_zero] at HST
          have n_id : ((mk y.cl.id).toList != (mk t4).toList) = true := by simp only [bne, e_id]; rfl
          clear hB hx hcell hco
          go_wp2
          go_roundg (l2.length - (k + 1))
          case measure => omega
          case rel => exact ⟨k + 1, D, by omega, rfl, rfl, by go_num, by omega, HST.out, HBk.out⟩
        rw [hB] at e_id
        have n_id : ((mk y.cl.id).toList != (mk t4).toList) = false := by simp only [bne, e_id]; rfl
        by_cases hst : y.st = 0
        case neg =>
          rw [if_neg (fun h => hst h.2), Int.add_zero] at HST
          have hbs : (y.st != 0) = true := by simpa using hst
          clear hB hx hcell hco hst
          go_wp2
          go_roundg (l2.length - (k + 1))
          case measure => omega
          case rel => exact ⟨k + 1, D, by omega, rfl, rfl, by go_num, by omega, HST.out, HBk.out⟩
        rw [if_pos ⟨by simpa using hB, hst⟩] at HST
        have HPz := Lib.hid (HPy.out hst)
        have hbs : (y.st != 0) = false := by simpa using hst
        obtain ⟨wo, rfl⟩ : ∃ z, z = wr := ⟨_, rfl⟩
        have HXK : Hid (∀ W', Below wo.heap.size wo W' → Bk.EnCells W' b (o + k * 10) y m (.slice ao y.outs.length no) ∧ Bk.OtsAt All W' (.slice ao y.outs.length no) y.outs ∧ Below W.heap.size W W') := fun W' hb => ⟨hcell.of (hb.block b hbl), hco.grw hb, below_trans HBk.out hb⟩
        have HP0 : Hid (D + planS (y.outs.drop 0) = D + planS y.outs) := by show _ = _; rw [List.drop_zero]
        have HRo := Lib.hid (Below.refl wo.heap.size wo)
        clear hB hx hcell hco hst HS HPy HBk hbl
        go_wp2
        clear c0 c1 c2 c3 c4 c5 c6 c7 c8 c9
        go_loopg [16, 20] (y.outs.length) (fun gg t16 t20 wr => ∃ (j : Nat) (F : Int), j ≤ y.outs.length ∧ gg = y.outs.length - j ∧ t16 = .int .i64 F ∧ t20 = .int .i64 j ∧ (0 ≤ F ∧ F ≤ 10000000000000 * (200 * (k : Int) + (j : Int))) ∧ Hid (F + planS (y.outs.drop j) = D + planS y.outs) ∧ Hid (Below wo.heap.size wo wr))
        case atStart => exact ⟨0, D, Nat.zero_le _, rfl, rfl, rfl, by omega, HP0.out, HRo.out⟩
        case round =>
          obtain ⟨j, F, hj, hgj, rfl, rfl, ⟨hF1, hF2⟩, HSj, HBj⟩ := hrel
          obtain ⟨⟨c0, c1, c2, c3, c4, c5, c6, c7, c8, c9⟩, hot, hbW⟩ := HXK.out _ HBj.out
          have HBW := Lib.hid hbW
          clear hbW
          by_cases hltj : j < y.outs.length
          case neg =>
            have hltzj : ¬ (j : Int) < (y.outs.length : Int) := by omega
            have hF := plan_end (by omega) HSj.out
            rw [← hF] at HST
            clear hot HSj hF
            go_wp2
            go_roundg (l2.length - (k + 1))
            case measure => omega
            case rel => exact ⟨k + 1, F, by omega, rfl, rfl, by go_num, by omega, HST.out, HBW.out⟩
          have hltzj : (j : Int) < (y.outs.length : Int) := by omega
          obtain ⟨b3, o3, rfl, -, hx3, hcell3⟩ := Bk.OtsAt.get hot j hltj
          have HSP := Lib.hid (plan_step hx3 HSj.out)
          have hbp := HPz.out _ (List.mem_of_getElem? hx3)
          have hi3 : j < y.outs.length := hltj
          generalize y.outs[j] = u at *
          obtain ⟨d0, d1, d2, d3, d4, d5, d6, d7⟩ := hcell3
          clear hx3 hot
          go_wp2
          go_roundg (y.outs.length - (j + 1))
          case measure => omega
          case rel => exact ⟨j + 1, F + u.plan, by omega, rfl, rfl, by go_num, by omega, HSP.out, HBj.out⟩

/-! ### the row's step -/
theorem laidOut : laidOutB Try.prog = true := by kernel_rfl
theorem lifted (os : Os) (started : os.Started) (H : Type) (enc : TypeId × Value → H) :
    ReturnsInHanded {} Try.checked os 7 .any (Rows.remitRunsSpec.pre6 enc Try.prog Try.f7 Rows.remitRunsRow.domain false) (Rows.remitRunsSpec.post enc Try.prog Try.f7 false true false false) := by
  refine returnsInHanded_of_change_shaped (C := Try.checked) own started (by kernel_rfl) Try.func7
    (ChangeSpec.witness6 (enc := enc) (C := Try.checked) false ⟨#[], #[.int .i64 0, .slice none 0 0, .slice none 0 0, .int .i64 0, .string ByteArray.empty], []⟩ 8 (by kernel_rfl) (by kernel_rfl) (by kernel_rfl) (by kernel_rfl)) ?_
  intro W base args ds gs before hval0 hW hcnd hwt _ _
  have hval : ∀ (j : Nat) t v, Try.f7.params[j]? = some t → args[j]? = some v → Value.okWide Try.prog W .any base t v := hval0
  have hW' := hW
  obtain ⟨p, q, hA0, hV, rfl, hfz, hnd⟩ := hW
  have hA : DataW.TrodAll enc Try.prog W 0 (fun _ => true) true Try.f7.params.toList args.toList ds p := hA0
  rw [Try.params7] at hA hval hwt
  obtain ⟨v0, vs0, d0, ds0, p0, q0, hargs, rfl, rfl, h0, r0⟩ := trodAll_cons hA
  obtain ⟨v1, vs1, d1, ds1, p1, q1, rfl, rfl, rfl, h1, r1⟩ := trodAll_cons r0
  obtain ⟨v2, vs2, d2, ds2, p2, q2, rfl, rfl, rfl, h2, r2⟩ := trodAll_cons r1
  obtain ⟨v3, vs3, d3, ds3, p3, q3, rfl, rfl, rfl, h3, r3⟩ := trodAll_cons r2
  obtain ⟨v4, vs4, d4, ds4, p4, q4, rfl, rfl, rfl, h4, r4⟩ := trodAll_cons r3
  obtain ⟨rfl, rfl, rfl⟩ := trodAll_nil r4
  obtain rfl : args = #[v0, v1, v2, v3, v4] := by cases args; simp_all
  obtain ⟨rfl, rfl⟩ := trodVars_none hV
  have hwl : ∀ z, (z ∈ d0.weights Try.prog 3 → z ≤ reachBytes) ∧ (z ∈ d1.weights Try.prog 22 → z ≤ reachBytes) ∧ (z ∈ d2.weights Try.prog 23 → z ≤ reachBytes) ∧ (z ∈ d3.weights Try.prog 2 → z ≤ reachBytes) ∧ (z ∈ d4.weights Try.prog 9 → z ≤ reachBytes) := fun z => by
    have h := List.all_eq_true.1 hwt z
    simp only [decide_eq_true_eq] at h
    refine ⟨fun hz => h ?_, fun hz => h ?_, fun hz => h ?_, fun hz => h ?_, fun hz => h ?_⟩
    all_goals
      simp only [List.cons_append, List.nil_append, List.toList_toArray, List.append_nil, DataW.weightsEach, List.mem_append]
      first | exact Or.inl hz | exact Or.inr (Or.inl hz) | exact Or.inr (Or.inr (Or.inl hz)) | exact Or.inr (Or.inr (Or.inr (Or.inl hz))) | exact Or.inr (Or.inr (Or.inr (Or.inr (Or.inl hz)))) | exact Or.inr (Or.inr (Or.inr (Or.inr (Or.inr (Or.inl hz))))) | exact Or.inr (Or.inr (Or.inr (Or.inr (Or.inr (Or.inr (Or.inl hz)))))) | simp [hz]
  have k0 := h0
  have lt0 : ∀ x ∈ p0, x.block < W.heap.size := by obtain ⟨m, hm⟩ := k0; exact DataW.trod_lt m _ _ _ hm
  obtain ⟨a0, rfl, _, _, w0⟩ := open_int Try.underlying3 (hval 0 3 v0 rfl rfl) h0
  have k1 := h1
  have lt1 : ∀ x ∈ p1, x.block < W.heap.size := by obtain ⟨m, hm⟩ := k1; exact DataW.trod_lt m _ _ _ hm
  obtain ⟨l1, g1, y1, z1⟩ := So.open_cps (okWide_slice Try.underlying22 (hval 1 22 v1 rfl rfl)) h1 (fun z hz => (hwl z).2.1 hz)
  have k2 := h2
  have lt2 : ∀ x ∈ p2, x.block < W.heap.size := by obtain ⟨m, hm⟩ := k2; exact DataW.trod_lt m _ _ _ hm
  obtain ⟨l2, g2, z2⟩ := So.open_ens (okWide_slice Try.underlying23 (hval 2 23 v2 rfl rfl)) h2 (fun z hz => (hwl z).2.2.1 hz)
  have k3 := h3
  have lt3 : ∀ x ∈ p3, x.block < W.heap.size := by obtain ⟨m, hm⟩ := k3; exact DataW.trod_lt m _ _ _ hm
  obtain ⟨a3, rfl, _, _, w3⟩ := open_int Try.underlying2 (hval 3 2 v3 rfl rfl) h3
  have k4 := h4
  have lt4 : ∀ x ∈ p4, x.block < W.heap.size := by obtain ⟨m, hm⟩ := k4; exact DataW.trod_lt m _ _ _ hm
  obtain ⟨s4, rfl, _, _, _⟩ := open_string Try.underlying9 (hval 4 9 v4 rfl rfl) h4
  obtain ⟨t4, rfl, z4⟩ := So.open_tx h4 (fun z hz => (hwl z).2.2.2.2 hz)
  clear hA0 hval0
  refine (walk W a0 (i64_wf w0) v1 l1 g1 y1 z1 v2 l2 g2 z2 a3 (i64_wf w3) t4 z4).mono fun e W' ⟨he, bel⟩ => ?_
  subst he
  exact ⟨_, rfl, _, _, _, [], _, [], hW', (trodAll_cons_mk (shut_bool Try.underlying4 _) trodAll_mk0), (trodAll_cons_mk (Below.trod laidOut (by kernel_rfl) (of_decide_eq_true (by kernel_rfl)) k0 bel lt0) (trodAll_cons_mk (Below.trod laidOut (by kernel_rfl) (of_decide_eq_true (by kernel_rfl)) k1 bel lt1) (trodAll_cons_mk (Below.trod laidOut (by kernel_rfl) (of_decide_eq_true (by kernel_rfl)) k2 bel lt2) (trodAll_cons_mk (Below.trod laidOut (by kernel_rfl) (of_decide_eq_true (by kernel_rfl)) k3 bel lt3) (trodAll_cons_mk (Below.trod laidOut (by kernel_rfl) (of_decide_eq_true (by kernel_rfl)) k4 bel lt4) trodAll_mk0))))), rfl, bel.frame _, fun h => by cases h⟩

theorem over : Rows.remitRunsRow.holds Try.pinned (OpenSpec.ofChange Rows.remitRunsSpec) :=
  OpenClaim.holds_of_wide 7 Try.f7 rfl rfl rfl rfl rfl rfl rfl ⟨rfl, rfl, rfl, rfl, rfl⟩ rfl rfl rfl rfl rfl (by kernel_rfl) Try.func7 (by kernel_rfl)
    (of_decide_eq_true (by kernel_rfl)) (by unfold Func.isWrapper; first | (rw [if_pos (by decide +kernel)]; kernel_rfl) | (rw [if_neg (by decide +kernel)]; exact ⟨rfl, rfl⟩))
    (fun os started H enc _ => lifted os started H enc)

/-- The statement. -/
theorem proved : Rows.RemitRunsSaid := over
end Go.Proofs.Ytpfpjbeofogbgaa.remitRuns
namespace Go.Proofs.Ytpfpjbeofogbgaa
theorem remitRuns_holds : Rows.RemitRunsSaid := remitRuns.proved
#print axioms remitRuns_holds
end Go.Proofs.Ytpfpjbeofogbgaa
