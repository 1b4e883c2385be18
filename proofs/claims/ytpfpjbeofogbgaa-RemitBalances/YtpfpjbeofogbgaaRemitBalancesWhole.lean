/-
  The statement RemitBalances (21.5): each remittance balances, and none is below nothing; for all that was told, all entries, all that is held.
-/
import Derived.WalkKit
import Derived.ProofKit
import Derived.OpenShut
import Derived.ShutString
import Derived.Below
import Derived.Carry
import Derived.Laws.Cover2
import Derived.HandedShaped
import Derived.Test.YtpfpjbeofogbgaaRows
import Derived.Test.YtpfpjbeofogbgaaMg1
import Derived.Test.YtpfpjbeofogbgaaMg2
import Derived.Test.YtpfpjbeofogbgaaMg3
import Derived.Test.YtpfpjbeofogbgaaMg4
import Derived.Test.YtpfpjbeofogbgaaMg5
import Derived.Test.YtpfpjbeofogbgaaMg6
import Derived.Test.YtpfpjbeofogbgaaMg7
import Derived.Test.YtpfpjbeofogbgaaMg8
import Derived.Test.YtpfpjbeofogbgaaMg9
import Derived.Test.YtpfpjbeofogbgaaMg10
import Derived.Test.YtpfpjbeofogbgaaMg11
import Derived.Test.YtpfpjbeofogbgaaMg12
import Derived.Test.YtpfpjbeofogbgaaMg13
import Derived.Test.YtpfpjbeofogbgaaMg14
import Derived.Test.YtpfpjbeofogbgaaMg15
import Derived.Test.YtpfpjbeofogbgaaMg16
import Derived.Test.YtpfpjbeofogbgaaMg17
import Derived.Test.YtpfpjbeofogbgaaMg18
import Derived.Test.YtpfpjbeofogbgaaMg19
import Derived.Test.YtpfpjbeofogbgaaMg20
import Derived.Test.YtpfpjbeofogbgaaMg21
import Derived.Test.YtpfpjbeofogbgaaMg22
import Derived.Test.YtpfpjbeofogbgaaMg23
import Derived.Test.YtpfpjbeofogbgaaMg24
import Derived.Test.YtpfpjbeofogbgaaMg25
import Derived.Test.YtpfpjbeofogbgaaMg26
import Derived.Test.YtpfpjbeofogbgaaMg27
import Derived.Test.YtpfpjbeofogbgaaMg28
import Derived.Test.YtpfpjbeofogbgaaMg29
import Derived.Test.YtpfpjbeofogbgaaMg30
namespace Go.Proofs.Ytpfpjbeofogbgaa.remitBalances
open Go.ChangeShapes Go.WideShapes Go.ChangeAt Go.RowKit
open Sv (Ca Sr Cp SvsAt CasAt CpsAt CpCells cpv cpe cp0 four six CpOk checkE Bd Sm I64)
open Re
open Bk (keepB below_alloc below_trans alloc_new)
open Go.ChangeMaps (open_string)
set_option linter.unusedVariables false
set_option linter.unusedSimpArgs false
set_option maxRecDepth 100000

theorem own : ownKnob Try.prog.godebug = none := by kernel_rfl

/-! ### the walk: the law returns true -/
set_option maxHeartbeats 16000000 in
theorem walk (w : World) (a0 : Int) (z0 : Sv.I64 a0) (v1 : Value) (l1 : List Cp) (h1 : CpsAt All w v1 l1) (y1 : l1.length ≤ 281474976710656) (z1 : ∀ x ∈ l1, So.OpC x) (v2 : Value) (l2 : List Bk.En) (h2 : Bk.EnsAt All w v2 l2) (z2 : ∀ x ∈ l2, Bk.EnOk x) (a3 : Int) (z3 : Sv.I64 a3) :
    Calls Try.prog 5 #[.int .i64 a0, v1, v2, .int .i64 a3] w fun e w' => e = .returned (.bool true) ∧ Below w.heap.size w w' := by
  have HW := Lib.hid works_any
  obtain ⟨ta, tc, rfl, t1, t2⟩ := h1.form
  obtain ⟨a, cap, rfl, f1, f2⟩ := h2.form
  have HT : Hid (∀ w', Below w.heap.size w w' → CpsAt All w' (.slice ta l1.length tc) l1) := fun w' hb => h1.grw hb
  have HE : Hid (∀ w', Below w.heap.size w w' → Bk.EnsAt All w' (.slice a l2.length cap) l2) := fun w' hb => h2.grw hb
  have HZT : Hid (∀ x ∈ l1, CpOk x) := fun x hx => (z1 x hx).1
  have HZ := Lib.hid z2
  have HI3 := Lib.hid z3
  have HLI := Lib.hid (light_any l1 l2 _ _ w h1 h2 (fun x hx => (z1 x hx).2) z2)
  clear h1 h2 z1 z2 z3
  go_enter Try.func5, Try.ntmps5
  go_wp2_with fail
  try (go_at_call 9)
  refine HLI.out.mono ?_
  rintro e w1 ⟨⟨b, rfl, hb⟩, hbw⟩
  have HB1 := Lib.hid hbw
  have HLP := Lib.hid hb
  clear hbw hb HLI
  cases b with
  | false =>
    go_wp2_with (first | (go_at_call 10; refine (HW.out _).mono ?_; rintro e w2 ⟨rfl, hb⟩; have HB2 : Hid (Below w.heap.size w w2) := below_trans HB1.out hb; clear hb))
    go_ret
    exact ⟨rfl, HB2.out⟩
  | true =>
  obtain ⟨hl1, hl2, hl3⟩ := HLP.out rfl
  have HMK := Lib.hid (make_any a0 l1 l2 a3 _ _ w1 (HT.out w1 HB1.out) (HE.out w1 HB1.out) HZT.out HZ.out (fun y hy => (hl3 y hy).1) (by omega) (by omega) HI3.out)
  clear HLP hl3 HZ HZT
  by_cases hE : makeE a0 l1 l2 a3 = 0
  case neg =>
    have hEb : (makeE a0 l1 l2 a3 != 0) = true := by simpa using hE
    have hR : makeR a0 l1 l2 a3 = rm0 := by unfold makeR; rw [if_neg hE]
    unfold MkV at HMK
    rw [hR] at HMK
    generalize makeE a0 l1 l2 a3 = E at *
    generalize makeK a0 l1 l2 a3 = K at *
    clear hR hE
    have HFS : Hid (∀ w2 mm, CpsAt All w2 mm rm0.cs → ∀ o W, Below (w2.alloc o).heap.size (w2.alloc o) W → Calls Try.prog 13 #[rmv rm0 mm, rmv rm0 (.slice none 0 0)] W fun e w' => e = .returned (.bool true) ∧ Below W.heap.size W w') := fun w2 mm hm o W hb => same_eq rm0 mm (.slice none 0 0) W ((hm.grw (below_alloc w2 o)).grw hb) (cps_nil _ _)
    go_upto_region 4 with (first | (go_at_call 11; refine HMK.out.mono ?_; rintro e w2 ⟨⟨mm, vv, rfl, hm1, hm2⟩, hb2⟩; obtain ⟨mm, km, rfl, -, -⟩ := hm1.form; obtain ⟨vv, kv, rfl, -, -⟩ := hm2.form; have HM2 : Hid (CpsAt All w2 (.slice mm rm0.cs.length km) rm0.cs) := CpsAt.all hm1; have HB2 : Hid (Below w.heap.size w (w2.alloc (.cells (rme rm0 (.slice mm rm0.cs.length km)) 27))) := below_trans HB1.out (below_trans hb2 (below_alloc w2 _)); have HX2 := Lib.hid (alloc_new w2 (rme rm0 (.slice mm rm0.cs.length km)) 27); clear hm1 hm2 hb2))
    have HS2 := Lib.hid fun W hb => HFS.out w2 _ HM2.out (.cells (rme rm0 (.slice mm rm0.cs.length km)) 27) W hb
    clear HFS HM2 HMK
    obtain ⟨x0, x1, x2, x3⟩ := four HX2.out
    generalize hq : w2.heap.size = q at *
    generalize w2.alloc (.cells (rme rm0 (.slice mm rm0.cs.length km)) 27) = W2 at *
    have HRF := Lib.hid (Below.refl W2.heap.size W2)
    go_wp2_with (first | (go_at_call 13; refine (HS2.out _ HRF.out).mono ?_; rintro e w3 ⟨rfl, hb3⟩; have HB3 : Hid (Below w.heap.size w w3) := below_trans HB2.out hb3; clear hb3) | (go_at_call 10; refine (HW.out _).mono ?_; rintro e w4 ⟨rfl, hb⟩; have HB4 : Hid (Below w.heap.size w w4) := below_trans HB3.out hb; clear hb))
    go_ret
    exact ⟨rfl, HB4.out⟩
  obtain ⟨hn, hh, hT, hME⟩ := make_ok hE
  have HR := Lib.hid (bal_ok hE (show l2.length ≤ 500 by omega))
  obtain ⟨hs1, hs2⟩ := mkO_sum hT hME (by omega)
  have hOL := mkO_len l2 l1
  have HCO : Hid (∀ x ∈ mkO l1 l2, checkE x = 0 ∧ Bd x.paid) := mkO_bd hT hME
  have hR : makeR a0 l1 l2 a3 = ⟨a0, paidV (sum (mkO l1 l2)) a3, heldV (sum (mkO l1 l2)) a3, mkO l1 l2⟩ := if_pos hE
  have hK : makeK a0 l1 l2 a3 = restV (sum (mkO l1 l2)) a3 := if_pos hE
  obtain ⟨hp0, hr0, hpr, hor⟩ := paid_rest (sum (mkO l1 l2)) a3
  obtain ⟨hv, -, -⟩ := held_bd hs1 hs2 hh.1 hh.2
  unfold MkV at HMK
  rw [hR, hK, hE] at HMK
  rw [hR] at HR
  clear hR hK hE hn hT hME
  have HIP : Hid (Sv.I64 (paidV (sum (mkO l1 l2)) a3) ∧ Sv.I64 (heldV (sum (mkO l1 l2)) a3)) := ⟨⟨by omega, by have h3 := hh.2; unfold paidV; omega⟩, ⟨by omega, by omega⟩⟩
  have HCK : Hid (∀ m W, CpsAt All W m (mkO l1 l2) → Calls Try.prog 17 #[rmv ⟨a0, paidV (sum (mkO l1 l2)) a3, heldV (sum (mkO l1 l2)) a3, mkO l1 l2⟩ m] W fun e w' => e = .returned (.int .i64 0) ∧ Below W.heap.size W w') := fun m W hm => by
    have h := check_any ⟨a0, paidV (sum (mkO l1 l2)) a3, heldV (sum (mkO l1 l2)) a3, mkO l1 l2⟩ m W hm (show (mkO l1 l2).length ≤ 2000 by omega) (fun x hx => (HCO.out x hx).2) (fun x hx => cpOk_of (HCO.out x hx).1) HIP.out.2 HIP.out.1
    rwa [HR.out] at h
  have HSU : Hid (∀ m W, CpsAt All W m (mkO l1 l2) → Calls Try.prog 20 #[rmv ⟨a0, paidV (sum (mkO l1 l2)) a3, heldV (sum (mkO l1 l2)) a3, mkO l1 l2⟩ m] W fun e w' => e = .returned (.int .i64 (sum (mkO l1 l2))) ∧ Below W.heap.size W w') := fun m W hm => rsum_any ⟨a0, paidV (sum (mkO l1 l2)) a3, heldV (sum (mkO l1 l2)) a3, mkO l1 l2⟩ m W hm (show (mkO l1 l2).length ≤ 2000 by omega) (fun x hx => (HCO.out x hx).2)
  clear HIP HR hOL HCO
  generalize mkO l1 l2 = OO at *
  generalize sum OO = SS at *
  generalize paidV SS a3 = PV at *
  generalize heldV SS a3 = HV at *
  generalize restV SS a3 = RV at *
  have hw1 : IntKind.i64.wrap (PV - RV) = SS - a3 := by rw [IntKind.wrap_i64]; omega
  have hw2 : IntKind.i64.wrap (SS - a3) = SS - a3 := by rw [IntKind.wrap_i64]; omega
  have RX : True := trivial
  go_upto_region 4 with (first | (go_at_call 11; refine HMK.out.mono ?_; rintro e w2 ⟨⟨mm, vv, rfl, hm1, hm2⟩, hb2⟩; obtain ⟨mm, km, rfl, -, -⟩ := hm1.form; obtain ⟨vv, kv, rfl, -, -⟩ := hm2.form; have HM2 : Hid (CpsAt All w2 (.slice mm OO.length km) OO) := CpsAt.all hm1; have HB2 : Hid (Below w.heap.size w (w2.alloc (.cells (rme ⟨a0, PV, HV, OO⟩ (.slice mm OO.length km)) 27))) := below_trans HB1.out (below_trans hb2 (below_alloc w2 _)); have HX2 := Lib.hid (alloc_new w2 (rme ⟨a0, PV, HV, OO⟩ (.slice mm OO.length km)) 27); clear hm1 hm2 hb2))
  have HM3 : Hid (∀ W, Below (w2.alloc (.cells (rme ⟨a0, PV, HV, OO⟩ (.slice mm OO.length km)) 27)).heap.size (w2.alloc (.cells (rme ⟨a0, PV, HV, OO⟩ (.slice mm OO.length km)) 27)) W → CpsAt All W (.slice mm OO.length km) OO) := fun W hb => (HM2.out.grw (below_alloc w2 _)).grw hb
  clear HM2 HMK
  generalize hq : w2.heap.size = q at *
  generalize w2.alloc (.cells (rme ⟨a0, PV, HV, OO⟩ (.slice mm OO.length km)) 27) = W2 at *
  have HXK : Hid (∀ W, Below W2.heap.size W2 W → W.heap[q]? = some (.cells (rme ⟨a0, PV, HV, OO⟩ (.slice mm OO.length km)) 27 (0, 0))) := fun W hb => keepB HX2.out hb
  have HD := Lib.hid (Below.drew (Below.refl W2.heap.size W2))
  have d1 : decide (0 ≤ PV) = true := decide_eq_true hp0
  have d2 : decide (0 ≤ RV) = true := decide_eq_true hr0
  go_upto_region 6 with fail
  by_cases hP : PV = 0
  · have hPb : (PV == 0) = true := by simpa using hP
    clear hP hor hpr hs1 hs2 hv hh
    refine Ri.wp_region_lasting_g (by kernel_rfl) (by kernel_rfl) (by kernel_rfl) (fun Wx => Below W2.heap.size W2 Wx) (fun kz vs wz => (fun kx vx wx => match kx with | 0 => vx = rmv ⟨a0, PV, HV, OO⟩ (.slice mm OO.length km) | 1 => vx = .int .i64 0 | 2 => vx = .bool true | 3 => vx = .bool true | 4 => vx = .pointer (some ⟨q, 1, none⟩) | 5 => vx = .int .i64 PV | 6 => vx = .bool true | 7 => vx = .bool true | 8 => vx = .bool true | 9 => vx = .int .i64 RV | 10 => vx = .bool true | 11 => vx = .bool true | 12 => vx = .bool true | 13 => vx = .pointer (some ⟨q, 1, none⟩) | 14 => vx = .int .i64 PV | 15 => vx = .int .i64 RV | 16 => vx = .int .i64 (SS - a3) | 17 => vx = rmv ⟨a0, PV, HV, OO⟩ (.slice mm OO.length km) | 18 => vx = .int .i64 SS | 19 => vx = .int .i64 a3 | 20 => vx = .int .i64 (SS - a3) | 21 => vx = .bool true | 22 => vx = .bool true | 23 => vx = .bool true | 24 => vx = .pointer (some ⟨q, 1, none⟩) | 25 => vx = .int .i64 PV | 26 => vx = .bool true | 27 => vx = .bool true | 28 => True | 29 => True | 30 => vx = .bool true | 31 => vx = .bool true | 32 => vx = .bool true | 33 => vx = .bool true | 34 => vx = .bool true | 35 => vx = .bool true | _ => True : Nat → Value → World → Prop) kz (vs kz) wz) (fun kz => [kz]) (by kernel_rfl) (fun jz vs iz vz wz hiz hz => Ri.loc_own (F := (fun kx vx wx => match kx with | 0 => vx = rmv ⟨a0, PV, HV, OO⟩ (.slice mm OO.length km) | 1 => vx = .int .i64 0 | 2 => vx = .bool true | 3 => vx = .bool true | 4 => vx = .pointer (some ⟨q, 1, none⟩) | 5 => vx = .int .i64 PV | 6 => vx = .bool true | 7 => vx = .bool true | 8 => vx = .bool true | 9 => vx = .int .i64 RV | 10 => vx = .bool true | 11 => vx = .bool true | 12 => vx = .bool true | 13 => vx = .pointer (some ⟨q, 1, none⟩) | 14 => vx = .int .i64 PV | 15 => vx = .int .i64 RV | 16 => vx = .int .i64 (SS - a3) | 17 => vx = rmv ⟨a0, PV, HV, OO⟩ (.slice mm OO.length km) | 18 => vx = .int .i64 SS | 19 => vx = .int .i64 a3 | 20 => vx = .int .i64 (SS - a3) | 21 => vx = .bool true | 22 => vx = .bool true | 23 => vx = .bool true | 24 => vx = .pointer (some ⟨q, 1, none⟩) | 25 => vx = .int .i64 PV | 26 => vx = .bool true | 27 => vx = .bool true | 28 => True | 29 => True | 30 => vx = .bool true | 31 => vx = .bool true | 32 => vx = .bool true | 33 => vx = .bool true | 34 => vx = .bool true | 35 => vx = .bool true | _ => True : Nat → Value → World → Prop)) jz vs iz vz wz hiz hz) HD.out ⟨Or.inl ⟨rfl, ?_⟩, Or.inl ⟨rfl, ?_⟩, Or.inl ⟨rfl, ?_⟩, Or.inl ⟨rfl, ?_⟩, Or.inr ⟨3, true, 39, rfl, rfl, ?_⟩, Or.inr ⟨3, true, 39, rfl, rfl, ?_⟩, Or.inr ⟨3, true, 39, rfl, rfl, ?_⟩, Or.inl ⟨rfl, ?_⟩, Or.inl ⟨rfl, ?_⟩, Or.inr ⟨8, true, 44, rfl, rfl, ?_⟩, Or.inr ⟨8, true, 44, rfl, rfl, ?_⟩, Or.inl ⟨rfl, ?_⟩, Or.inl ⟨rfl, ?_⟩, Or.inr ⟨12, true, 48, rfl, rfl, ?_⟩, Or.inr ⟨12, true, 48, rfl, rfl, ?_⟩, Or.inr ⟨12, true, 48, rfl, rfl, ?_⟩, Or.inr ⟨12, true, 48, rfl, rfl, ?_⟩, Or.inr ⟨12, true, 48, rfl, rfl, ?_⟩, Or.inr ⟨12, true, 48, rfl, rfl, ?_⟩, Or.inr ⟨12, true, 48, rfl, rfl, ?_⟩, Or.inr ⟨12, true, 48, rfl, rfl, ?_⟩, Or.inr ⟨12, true, 48, rfl, rfl, ?_⟩, Or.inl ⟨rfl, ?_⟩, Or.inl ⟨rfl, ?_⟩, Or.inr ⟨23, true, 59, rfl, rfl, ?_⟩, Or.inr ⟨23, true, 59, rfl, rfl, ?_⟩, Or.inr ⟨23, true, 59, rfl, rfl, ?_⟩, Or.inr ⟨23, true, 59, rfl, rfl, ?_⟩, Or.inr ⟨27, false, 63, rfl, rfl, ?_⟩, Or.inr ⟨27, false, 63, rfl, rfl, ?_⟩, Or.inr ⟨23, true, 59, rfl, rfl, ?_⟩, Or.inl ⟨rfl, ?_⟩, Or.inl ⟨rfl, ?_⟩, Or.inr ⟨32, true, 68, rfl, rfl, ?_⟩, Or.inl ⟨rfl, ?_⟩, Or.inl ⟨rfl, ?_⟩, trivial⟩ ?_
    · intro vs Wx A hA hB hpre K hK
      have e9 := (hA 9).trans (show _ = Value.pointer (some ⟨q, 0, none⟩) by kernel_rfl)
      obtain ⟨x0, x1, x2, x3⟩ := four (HXK.out Wx hB)
      clear hA hpre
      go_simp
      first | exact hK _ _ hB rfl (fun _ _ h => h) | exact hK _ _ hB trivial (fun _ _ h => h) | (rw [if_neg (by omega)]; go_simp; exact hK _ _ hB rfl (fun _ _ h => h))
    · intro vs Wx A hA hB hpre K hK
      have e36 := ((hA 36).trans (show _ = vs 0 by kernel_rfl)).trans (by first | exact hpre.1 rfl | exact hpre.2.1 rfl | exact hpre.2.2.1 rfl | exact hpre.2.2.2.1 rfl | exact hpre.2.2.2.2.1 rfl | exact hpre.2.2.2.2.2.1 rfl | exact hpre.2.2.2.2.2.2.1 rfl | exact hpre.2.2.2.2.2.2.2.1 rfl | exact hpre.2.2.2.2.2.2.2.2.1 rfl | exact hpre.2.2.2.2.2.2.2.2.2.1 rfl)
      clear hA hpre
      go_simp
      go_at_call 17
      refine (HCK.out _ Wx (HM3.out Wx hB)).mono ?_
      rintro e w4 ⟨rfl, hg⟩
      exact hK _ _ (below_trans hB hg) rfl (fun _ _ h => h)
    · intro vs Wx A hA hB hpre K hK
      have e37 := ((hA 37).trans (show _ = vs 1 by kernel_rfl)).trans (by first | exact hpre.1 rfl | exact hpre.2.1 rfl | exact hpre.2.2.1 rfl | exact hpre.2.2.2.1 rfl | exact hpre.2.2.2.2.1 rfl | exact hpre.2.2.2.2.2.1 rfl | exact hpre.2.2.2.2.2.2.1 rfl | exact hpre.2.2.2.2.2.2.2.1 rfl | exact hpre.2.2.2.2.2.2.2.2.1 rfl | exact hpre.2.2.2.2.2.2.2.2.2.1 rfl)
      clear hA hpre
      go_simp
      first | exact hK _ _ hB rfl (fun _ _ h => h) | exact hK _ _ hB trivial (fun _ _ h => h) | (rw [if_neg (by omega)]; go_simp; exact hK _ _ hB rfl (fun _ _ h => h))
    · intro vs Wx A hA hB hpre K hK
      have e38 := ((hA 38).trans (show _ = vs 2 by kernel_rfl)).trans (by first | exact hpre.1 rfl | exact hpre.2.1 rfl | exact hpre.2.2.1 rfl | exact hpre.2.2.2.1 rfl | exact hpre.2.2.2.2.1 rfl | exact hpre.2.2.2.2.2.1 rfl | exact hpre.2.2.2.2.2.2.1 rfl | exact hpre.2.2.2.2.2.2.2.1 rfl | exact hpre.2.2.2.2.2.2.2.2.1 rfl | exact hpre.2.2.2.2.2.2.2.2.2.1 rfl)
      clear hA hpre
      go_simp
      first | exact hK _ _ hB rfl (fun _ _ h => h) | exact hK _ _ hB trivial (fun _ _ h => h) | (rw [if_neg (by omega)]; go_simp; exact hK _ _ hB rfl (fun _ _ h => h))
    · intro vs Wx A hA hB hpre
      have eg := ((hA 39).trans (show _ = vs 3 by kernel_rfl)).trans (by first | exact hpre.1 rfl | exact hpre.2.1 rfl | exact hpre.2.2.1 rfl | exact hpre.2.2.2.1 rfl | exact hpre.2.2.2.2.1 rfl | exact hpre.2.2.2.2.2.1 rfl | exact hpre.2.2.2.2.2.2.1 rfl | exact hpre.2.2.2.2.2.2.2.1 rfl | exact hpre.2.2.2.2.2.2.2.2.1 rfl | exact hpre.2.2.2.2.2.2.2.2.2.1 rfl)
      refine ⟨true, eg, fun _ K hK => ?_, fun h => absurd rfl h⟩
      have e9 := (hA 9).trans (show _ = Value.pointer (some ⟨q, 0, none⟩) by kernel_rfl)
      clear hA hpre
      go_simp
      first | exact hK _ _ hB rfl (fun _ _ h => h) | exact hK _ _ hB trivial (fun _ _ h => h) | (rw [if_neg (by omega)]; go_simp; exact hK _ _ hB rfl (fun _ _ h => h))
    · intro vs Wx A hA hB hpre
      have eg := ((hA 39).trans (show _ = vs 3 by kernel_rfl)).trans (by first | exact hpre.1 rfl | exact hpre.2.1 rfl | exact hpre.2.2.1 rfl | exact hpre.2.2.2.1 rfl | exact hpre.2.2.2.2.1 rfl | exact hpre.2.2.2.2.2.1 rfl | exact hpre.2.2.2.2.2.2.1 rfl | exact hpre.2.2.2.2.2.2.2.1 rfl | exact hpre.2.2.2.2.2.2.2.2.1 rfl | exact hpre.2.2.2.2.2.2.2.2.2.1 rfl)
      refine ⟨true, eg, fun _ K hK => ?_, fun h => absurd rfl h⟩
      have e40 := ((hA 40).trans (show _ = vs 4 by kernel_rfl)).trans (by first | exact hpre.1 rfl | exact hpre.2.1 rfl | exact hpre.2.2.1 rfl | exact hpre.2.2.2.1 rfl | exact hpre.2.2.2.2.1 rfl | exact hpre.2.2.2.2.2.1 rfl | exact hpre.2.2.2.2.2.2.1 rfl | exact hpre.2.2.2.2.2.2.2.1 rfl | exact hpre.2.2.2.2.2.2.2.2.1 rfl | exact hpre.2.2.2.2.2.2.2.2.2.1 rfl)
      obtain ⟨x0, x1, x2, x3⟩ := four (HXK.out Wx hB)
      clear hA hpre
      go_simp
      first | exact hK _ _ hB rfl (fun _ _ h => h) | exact hK _ _ hB trivial (fun _ _ h => h) | (rw [if_neg (by omega)]; go_simp; exact hK _ _ hB rfl (fun _ _ h => h))
    · intro vs Wx A hA hB hpre
      have eg := ((hA 39).trans (show _ = vs 3 by kernel_rfl)).trans (by first | exact hpre.1 rfl | exact hpre.2.1 rfl | exact hpre.2.2.1 rfl | exact hpre.2.2.2.1 rfl | exact hpre.2.2.2.2.1 rfl | exact hpre.2.2.2.2.2.1 rfl | exact hpre.2.2.2.2.2.2.1 rfl | exact hpre.2.2.2.2.2.2.2.1 rfl | exact hpre.2.2.2.2.2.2.2.2.1 rfl | exact hpre.2.2.2.2.2.2.2.2.2.1 rfl)
      refine ⟨true, eg, fun _ K hK => ?_, fun h => absurd rfl h⟩
      have e41 := ((hA 41).trans (show _ = vs 5 by kernel_rfl)).trans (by first | exact hpre.1 rfl | exact hpre.2.1 rfl | exact hpre.2.2.1 rfl | exact hpre.2.2.2.1 rfl | exact hpre.2.2.2.2.1 rfl | exact hpre.2.2.2.2.2.1 rfl | exact hpre.2.2.2.2.2.2.1 rfl | exact hpre.2.2.2.2.2.2.2.1 rfl | exact hpre.2.2.2.2.2.2.2.2.1 rfl | exact hpre.2.2.2.2.2.2.2.2.2.1 rfl)
      clear hA hpre
      go_simp
      first | exact hK _ _ hB rfl (fun _ _ h => h) | exact hK _ _ hB trivial (fun _ _ h => h) | (rw [if_neg (by omega)]; go_simp; exact hK _ _ hB rfl (fun _ _ h => h))
    · intro vs Wx A hA hB hpre K hK
      have e39 := ((hA 39).trans (show _ = vs 3 by kernel_rfl)).trans (by first | exact hpre.1 rfl | exact hpre.2.1 rfl | exact hpre.2.2.1 rfl | exact hpre.2.2.2.1 rfl | exact hpre.2.2.2.2.1 rfl | exact hpre.2.2.2.2.2.1 rfl | exact hpre.2.2.2.2.2.2.1 rfl | exact hpre.2.2.2.2.2.2.2.1 rfl | exact hpre.2.2.2.2.2.2.2.2.1 rfl | exact hpre.2.2.2.2.2.2.2.2.2.1 rfl)
      have e42 := ((hA 42).trans (show _ = vs 6 by kernel_rfl)).trans (by first | exact hpre.1 rfl | exact hpre.2.1 rfl | exact hpre.2.2.1 rfl | exact hpre.2.2.2.1 rfl | exact hpre.2.2.2.2.1 rfl | exact hpre.2.2.2.2.2.1 rfl | exact hpre.2.2.2.2.2.2.1 rfl | exact hpre.2.2.2.2.2.2.2.1 rfl | exact hpre.2.2.2.2.2.2.2.2.1 rfl | exact hpre.2.2.2.2.2.2.2.2.2.1 rfl)
      clear hA hpre
      go_simp
      first | exact hK _ _ hB rfl (fun _ _ h => h) | exact hK _ _ hB trivial (fun _ _ h => h) | (rw [if_neg (by omega)]; go_simp; exact hK _ _ hB rfl (fun _ _ h => h))
    · intro vs Wx A hA hB hpre K hK
      have e43 := ((hA 43).trans (show _ = vs 7 by kernel_rfl)).trans (by first | exact hpre.1 rfl | exact hpre.2.1 rfl | exact hpre.2.2.1 rfl | exact hpre.2.2.2.1 rfl | exact hpre.2.2.2.2.1 rfl | exact hpre.2.2.2.2.2.1 rfl | exact hpre.2.2.2.2.2.2.1 rfl | exact hpre.2.2.2.2.2.2.2.1 rfl | exact hpre.2.2.2.2.2.2.2.2.1 rfl | exact hpre.2.2.2.2.2.2.2.2.2.1 rfl)
      clear hA hpre
      go_simp
      first | exact hK _ _ hB rfl (fun _ _ h => h) | exact hK _ _ hB trivial (fun _ _ h => h) | (rw [if_neg (by omega)]; go_simp; exact hK _ _ hB rfl (fun _ _ h => h))
    · intro vs Wx A hA hB hpre
      have eg := ((hA 44).trans (show _ = vs 8 by kernel_rfl)).trans (by first | exact hpre.1 rfl | exact hpre.2.1 rfl | exact hpre.2.2.1 rfl | exact hpre.2.2.2.1 rfl | exact hpre.2.2.2.2.1 rfl | exact hpre.2.2.2.2.2.1 rfl | exact hpre.2.2.2.2.2.2.1 rfl | exact hpre.2.2.2.2.2.2.2.1 rfl | exact hpre.2.2.2.2.2.2.2.2.1 rfl | exact hpre.2.2.2.2.2.2.2.2.2.1 rfl)
      refine ⟨true, eg, fun _ K hK => ?_, fun h => absurd rfl h⟩
      have e11 := (hA 11).trans (show _ = Value.int .i64 RV by kernel_rfl)
      clear hA hpre
      go_simp
      first | exact hK _ _ hB rfl (fun _ _ h => h) | exact hK _ _ hB trivial (fun _ _ h => h) | (rw [if_neg (by omega)]; go_simp; exact hK _ _ hB rfl (fun _ _ h => h))
    · intro vs Wx A hA hB hpre
      have eg := ((hA 44).trans (show _ = vs 8 by kernel_rfl)).trans (by first | exact hpre.1 rfl | exact hpre.2.1 rfl | exact hpre.2.2.1 rfl | exact hpre.2.2.2.1 rfl | exact hpre.2.2.2.2.1 rfl | exact hpre.2.2.2.2.2.1 rfl | exact hpre.2.2.2.2.2.2.1 rfl | exact hpre.2.2.2.2.2.2.2.1 rfl | exact hpre.2.2.2.2.2.2.2.2.1 rfl | exact hpre.2.2.2.2.2.2.2.2.2.1 rfl)
      refine ⟨true, eg, fun _ K hK => ?_, fun h => absurd rfl h⟩
      have e45 := ((hA 45).trans (show _ = vs 9 by kernel_rfl)).trans (by first | exact hpre.1 rfl | exact hpre.2.1 rfl | exact hpre.2.2.1 rfl | exact hpre.2.2.2.1 rfl | exact hpre.2.2.2.2.1 rfl | exact hpre.2.2.2.2.2.1 rfl | exact hpre.2.2.2.2.2.2.1 rfl | exact hpre.2.2.2.2.2.2.2.1 rfl | exact hpre.2.2.2.2.2.2.2.2.1 rfl | exact hpre.2.2.2.2.2.2.2.2.2.1 rfl)
      clear hA hpre
      go_simp
      first | exact hK _ _ hB rfl (fun _ _ h => h) | exact hK _ _ hB trivial (fun _ _ h => h) | (rw [if_neg (by omega)]; go_simp; exact hK _ _ hB rfl (fun _ _ h => h))
    · intro vs Wx A hA hB hpre K hK
      have e44 := ((hA 44).trans (show _ = vs 8 by kernel_rfl)).trans (by first | exact hpre.1 rfl | exact hpre.2.1 rfl | exact hpre.2.2.1 rfl | exact hpre.2.2.2.1 rfl | exact hpre.2.2.2.2.1 rfl | exact hpre.2.2.2.2.2.1 rfl | exact hpre.2.2.2.2.2.2.1 rfl | exact hpre.2.2.2.2.2.2.2.1 rfl | exact hpre.2.2.2.2.2.2.2.2.1 rfl | exact hpre.2.2.2.2.2.2.2.2.2.1 rfl)
      have e46 := ((hA 46).trans (show _ = vs 10 by kernel_rfl)).trans (by first | exact hpre.1 rfl | exact hpre.2.1 rfl | exact hpre.2.2.1 rfl | exact hpre.2.2.2.1 rfl | exact hpre.2.2.2.2.1 rfl | exact hpre.2.2.2.2.2.1 rfl | exact hpre.2.2.2.2.2.2.1 rfl | exact hpre.2.2.2.2.2.2.2.1 rfl | exact hpre.2.2.2.2.2.2.2.2.1 rfl | exact hpre.2.2.2.2.2.2.2.2.2.1 rfl)
      clear hA hpre
      go_simp
      first | exact hK _ _ hB rfl (fun _ _ h => h) | exact hK _ _ hB trivial (fun _ _ h => h) | (rw [if_neg (by omega)]; go_simp; exact hK _ _ hB rfl (fun _ _ h => h))
    · intro vs Wx A hA hB hpre K hK
      have e47 := ((hA 47).trans (show _ = vs 11 by kernel_rfl)).trans (by first | exact hpre.1 rfl | exact hpre.2.1 rfl | exact hpre.2.2.1 rfl | exact hpre.2.2.2.1 rfl | exact hpre.2.2.2.2.1 rfl | exact hpre.2.2.2.2.2.1 rfl | exact hpre.2.2.2.2.2.2.1 rfl | exact hpre.2.2.2.2.2.2.2.1 rfl | exact hpre.2.2.2.2.2.2.2.2.1 rfl | exact hpre.2.2.2.2.2.2.2.2.2.1 rfl)
      clear hA hpre
      go_simp
      first | exact hK _ _ hB rfl (fun _ _ h => h) | exact hK _ _ hB trivial (fun _ _ h => h) | (rw [if_neg (by omega)]; go_simp; exact hK _ _ hB rfl (fun _ _ h => h))
    · intro vs Wx A hA hB hpre
      have eg := ((hA 48).trans (show _ = vs 12 by kernel_rfl)).trans (by first | exact hpre.1 rfl | exact hpre.2.1 rfl | exact hpre.2.2.1 rfl | exact hpre.2.2.2.1 rfl | exact hpre.2.2.2.2.1 rfl | exact hpre.2.2.2.2.2.1 rfl | exact hpre.2.2.2.2.2.2.1 rfl | exact hpre.2.2.2.2.2.2.2.1 rfl | exact hpre.2.2.2.2.2.2.2.2.1 rfl | exact hpre.2.2.2.2.2.2.2.2.2.1 rfl)
      refine ⟨true, eg, fun _ K hK => ?_, fun h => absurd rfl h⟩
      have e9 := (hA 9).trans (show _ = Value.pointer (some ⟨q, 0, none⟩) by kernel_rfl)
      clear hA hpre
      go_simp
      first | exact hK _ _ hB rfl (fun _ _ h => h) | exact hK _ _ hB trivial (fun _ _ h => h) | (rw [if_neg (by omega)]; go_simp; exact hK _ _ hB rfl (fun _ _ h => h))
    · intro vs Wx A hA hB hpre
      have eg := ((hA 48).trans (show _ = vs 12 by kernel_rfl)).trans (by first | exact hpre.1 rfl | exact hpre.2.1 rfl | exact hpre.2.2.1 rfl | exact hpre.2.2.2.1 rfl | exact hpre.2.2.2.2.1 rfl | exact hpre.2.2.2.2.2.1 rfl | exact hpre.2.2.2.2.2.2.1 rfl | exact hpre.2.2.2.2.2.2.2.1 rfl | exact hpre.2.2.2.2.2.2.2.2.1 rfl | exact hpre.2.2.2.2.2.2.2.2.2.1 rfl)
      refine ⟨true, eg, fun _ K hK => ?_, fun h => absurd rfl h⟩
      have e49 := ((hA 49).trans (show _ = vs 13 by kernel_rfl)).trans (by first | exact hpre.1 rfl | exact hpre.2.1 rfl | exact hpre.2.2.1 rfl | exact hpre.2.2.2.1 rfl | exact hpre.2.2.2.2.1 rfl | exact hpre.2.2.2.2.2.1 rfl | exact hpre.2.2.2.2.2.2.1 rfl | exact hpre.2.2.2.2.2.2.2.1 rfl | exact hpre.2.2.2.2.2.2.2.2.1 rfl | exact hpre.2.2.2.2.2.2.2.2.2.1 rfl)
      obtain ⟨x0, x1, x2, x3⟩ := four (HXK.out Wx hB)
      clear hA hpre
      go_simp
      first | exact hK _ _ hB rfl (fun _ _ h => h) | exact hK _ _ hB trivial (fun _ _ h => h) | (rw [if_neg (by omega)]; go_simp; exact hK _ _ hB rfl (fun _ _ h => h))
    · intro vs Wx A hA hB hpre
      have eg := ((hA 48).trans (show _ = vs 12 by kernel_rfl)).trans (by first | exact hpre.1 rfl | exact hpre.2.1 rfl | exact hpre.2.2.1 rfl | exact hpre.2.2.2.1 rfl | exact hpre.2.2.2.2.1 rfl | exact hpre.2.2.2.2.2.1 rfl | exact hpre.2.2.2.2.2.2.1 rfl | exact hpre.2.2.2.2.2.2.2.1 rfl | exact hpre.2.2.2.2.2.2.2.2.1 rfl | exact hpre.2.2.2.2.2.2.2.2.2.1 rfl)
      refine ⟨true, eg, fun _ K hK => ?_, fun h => absurd rfl h⟩
      have e11 := (hA 11).trans (show _ = Value.int .i64 RV by kernel_rfl)
      clear hA hpre
      go_simp
      first | exact hK _ _ hB rfl (fun _ _ h => h) | exact hK _ _ hB trivial (fun _ _ h => h) | (rw [if_neg (by omega)]; go_simp; exact hK _ _ hB rfl (fun _ _ h => h))
    · intro vs Wx A hA hB hpre
      have eg := ((hA 48).trans (show _ = vs 12 by kernel_rfl)).trans (by first | exact hpre.1 rfl | exact hpre.2.1 rfl | exact hpre.2.2.1 rfl | exact hpre.2.2.2.1 rfl | exact hpre.2.2.2.2.1 rfl | exact hpre.2.2.2.2.2.1 rfl | exact hpre.2.2.2.2.2.2.1 rfl | exact hpre.2.2.2.2.2.2.2.1 rfl | exact hpre.2.2.2.2.2.2.2.2.1 rfl | exact hpre.2.2.2.2.2.2.2.2.2.1 rfl)
      refine ⟨true, eg, fun _ K hK => ?_, fun h => absurd rfl h⟩
      have e50 := ((hA 50).trans (show _ = vs 14 by kernel_rfl)).trans (by first | exact hpre.1 rfl | exact hpre.2.1 rfl | exact hpre.2.2.1 rfl | exact hpre.2.2.2.1 rfl | exact hpre.2.2.2.2.1 rfl | exact hpre.2.2.2.2.2.1 rfl | exact hpre.2.2.2.2.2.2.1 rfl | exact hpre.2.2.2.2.2.2.2.1 rfl | exact hpre.2.2.2.2.2.2.2.2.1 rfl | exact hpre.2.2.2.2.2.2.2.2.2.1 rfl)
      have e51 := ((hA 51).trans (show _ = vs 15 by kernel_rfl)).trans (by first | exact hpre.1 rfl | exact hpre.2.1 rfl | exact hpre.2.2.1 rfl | exact hpre.2.2.2.1 rfl | exact hpre.2.2.2.2.1 rfl | exact hpre.2.2.2.2.2.1 rfl | exact hpre.2.2.2.2.2.2.1 rfl | exact hpre.2.2.2.2.2.2.2.1 rfl | exact hpre.2.2.2.2.2.2.2.2.1 rfl | exact hpre.2.2.2.2.2.2.2.2.2.1 rfl)
      clear hA hpre
      go_simp
      first | exact hK _ _ hB rfl (fun _ _ h => h) | exact hK _ _ hB trivial (fun _ _ h => h) | (rw [if_neg (by omega)]; go_simp; exact hK _ _ hB rfl (fun _ _ h => h))
    · intro vs Wx A hA hB hpre
      have eg := ((hA 48).trans (show _ = vs 12 by kernel_rfl)).trans (by first | exact hpre.1 rfl | exact hpre.2.1 rfl | exact hpre.2.2.1 rfl | exact hpre.2.2.2.1 rfl | exact hpre.2.2.2.2.1 rfl | exact hpre.2.2.2.2.2.1 rfl | exact hpre.2.2.2.2.2.2.1 rfl | exact hpre.2.2.2.2.2.2.2.1 rfl | exact hpre.2.2.2.2.2.2.2.2.1 rfl | exact hpre.2.2.2.2.2.2.2.2.2.1 rfl)
      refine ⟨true, eg, fun _ K hK => ?_, fun h => absurd rfl h⟩
      have e9 := (hA 9).trans (show _ = Value.pointer (some ⟨q, 0, none⟩) by kernel_rfl)
      obtain ⟨x0, x1, x2, x3⟩ := four (HXK.out Wx hB)
      clear hA hpre
      go_simp
      first | exact hK _ _ hB rfl (fun _ _ h => h) | exact hK _ _ hB trivial (fun _ _ h => h) | (rw [if_neg (by omega)]; go_simp; exact hK _ _ hB rfl (fun _ _ h => h))
    · intro vs Wx A hA hB hpre
      have eg := ((hA 48).trans (show _ = vs 12 by kernel_rfl)).trans (by first | exact hpre.1 rfl | exact hpre.2.1 rfl | exact hpre.2.2.1 rfl | exact hpre.2.2.2.1 rfl | exact hpre.2.2.2.2.1 rfl | exact hpre.2.2.2.2.2.1 rfl | exact hpre.2.2.2.2.2.2.1 rfl | exact hpre.2.2.2.2.2.2.2.1 rfl | exact hpre.2.2.2.2.2.2.2.2.1 rfl | exact hpre.2.2.2.2.2.2.2.2.2.1 rfl)
      refine ⟨true, eg, fun _ K hK => ?_, fun h => absurd rfl h⟩
      have e53 := ((hA 53).trans (show _ = vs 17 by kernel_rfl)).trans (by first | exact hpre.1 rfl | exact hpre.2.1 rfl | exact hpre.2.2.1 rfl | exact hpre.2.2.2.1 rfl | exact hpre.2.2.2.2.1 rfl | exact hpre.2.2.2.2.2.1 rfl | exact hpre.2.2.2.2.2.2.1 rfl | exact hpre.2.2.2.2.2.2.2.1 rfl | exact hpre.2.2.2.2.2.2.2.2.1 rfl | exact hpre.2.2.2.2.2.2.2.2.2.1 rfl)
      clear hA hpre
      go_simp
      go_at_call 20
      refine (HSU.out _ Wx (HM3.out Wx hB)).mono ?_
      rintro e w4 ⟨rfl, hg⟩
      exact hK _ _ (below_trans hB hg) rfl (fun _ _ h => h)
    · intro vs Wx A hA hB hpre
      have eg := ((hA 48).trans (show _ = vs 12 by kernel_rfl)).trans (by first | exact hpre.1 rfl | exact hpre.2.1 rfl | exact hpre.2.2.1 rfl | exact hpre.2.2.2.1 rfl | exact hpre.2.2.2.2.1 rfl | exact hpre.2.2.2.2.2.1 rfl | exact hpre.2.2.2.2.2.2.1 rfl | exact hpre.2.2.2.2.2.2.2.1 rfl | exact hpre.2.2.2.2.2.2.2.2.1 rfl | exact hpre.2.2.2.2.2.2.2.2.2.1 rfl)
      refine ⟨true, eg, fun _ K hK => ?_, fun h => absurd rfl h⟩
      have e3 := (hA 3).trans (show _ = Value.int .i64 a3 by kernel_rfl)
      clear hA hpre
      go_simp
      first | exact hK _ _ hB rfl (fun _ _ h => h) | exact hK _ _ hB trivial (fun _ _ h => h) | (rw [if_neg (by omega)]; go_simp; exact hK _ _ hB rfl (fun _ _ h => h))
    · intro vs Wx A hA hB hpre
      have eg := ((hA 48).trans (show _ = vs 12 by kernel_rfl)).trans (by first | exact hpre.1 rfl | exact hpre.2.1 rfl | exact hpre.2.2.1 rfl | exact hpre.2.2.2.1 rfl | exact hpre.2.2.2.2.1 rfl | exact hpre.2.2.2.2.2.1 rfl | exact hpre.2.2.2.2.2.2.1 rfl | exact hpre.2.2.2.2.2.2.2.1 rfl | exact hpre.2.2.2.2.2.2.2.2.1 rfl | exact hpre.2.2.2.2.2.2.2.2.2.1 rfl)
      refine ⟨true, eg, fun _ K hK => ?_, fun h => absurd rfl h⟩
      have e54 := ((hA 54).trans (show _ = vs 18 by kernel_rfl)).trans (by first | exact hpre.1 rfl | exact hpre.2.1 rfl | exact hpre.2.2.1 rfl | exact hpre.2.2.2.1 rfl | exact hpre.2.2.2.2.1 rfl | exact hpre.2.2.2.2.2.1 rfl | exact hpre.2.2.2.2.2.2.1 rfl | exact hpre.2.2.2.2.2.2.2.1 rfl | exact hpre.2.2.2.2.2.2.2.2.1 rfl | exact hpre.2.2.2.2.2.2.2.2.2.1 rfl)
      have e55 := ((hA 55).trans (show _ = vs 19 by kernel_rfl)).trans (by first | exact hpre.1 rfl | exact hpre.2.1 rfl | exact hpre.2.2.1 rfl | exact hpre.2.2.2.1 rfl | exact hpre.2.2.2.2.1 rfl | exact hpre.2.2.2.2.2.1 rfl | exact hpre.2.2.2.2.2.2.1 rfl | exact hpre.2.2.2.2.2.2.2.1 rfl | exact hpre.2.2.2.2.2.2.2.2.1 rfl | exact hpre.2.2.2.2.2.2.2.2.2.1 rfl)
      clear hA hpre
      go_simp
      first | exact hK _ _ hB rfl (fun _ _ h => h) | exact hK _ _ hB trivial (fun _ _ h => h) | (rw [if_neg (by omega)]; go_simp; exact hK _ _ hB rfl (fun _ _ h => h))
    · intro vs Wx A hA hB hpre
      have eg := ((hA 48).trans (show _ = vs 12 by kernel_rfl)).trans (by first | exact hpre.1 rfl | exact hpre.2.1 rfl | exact hpre.2.2.1 rfl | exact hpre.2.2.2.1 rfl | exact hpre.2.2.2.2.1 rfl | exact hpre.2.2.2.2.2.1 rfl | exact hpre.2.2.2.2.2.2.1 rfl | exact hpre.2.2.2.2.2.2.2.1 rfl | exact hpre.2.2.2.2.2.2.2.2.1 rfl | exact hpre.2.2.2.2.2.2.2.2.2.1 rfl)
      refine ⟨true, eg, fun _ K hK => ?_, fun h => absurd rfl h⟩
      have e52 := ((hA 52).trans (show _ = vs 16 by kernel_rfl)).trans (by first | exact hpre.1 rfl | exact hpre.2.1 rfl | exact hpre.2.2.1 rfl | exact hpre.2.2.2.1 rfl | exact hpre.2.2.2.2.1 rfl | exact hpre.2.2.2.2.2.1 rfl | exact hpre.2.2.2.2.2.2.1 rfl | exact hpre.2.2.2.2.2.2.2.1 rfl | exact hpre.2.2.2.2.2.2.2.2.1 rfl | exact hpre.2.2.2.2.2.2.2.2.2.1 rfl)
      have e56 := ((hA 56).trans (show _ = vs 20 by kernel_rfl)).trans (by first | exact hpre.1 rfl | exact hpre.2.1 rfl | exact hpre.2.2.1 rfl | exact hpre.2.2.2.1 rfl | exact hpre.2.2.2.2.1 rfl | exact hpre.2.2.2.2.2.1 rfl | exact hpre.2.2.2.2.2.2.1 rfl | exact hpre.2.2.2.2.2.2.2.1 rfl | exact hpre.2.2.2.2.2.2.2.2.1 rfl | exact hpre.2.2.2.2.2.2.2.2.2.1 rfl)
      clear hA hpre
      go_simp
      first | exact hK _ _ hB rfl (fun _ _ h => h) | exact hK _ _ hB trivial (fun _ _ h => h) | (rw [if_neg (by omega)]; go_simp; exact hK _ _ hB rfl (fun _ _ h => h))
    · intro vs Wx A hA hB hpre K hK
      have e48 := ((hA 48).trans (show _ = vs 12 by kernel_rfl)).trans (by first | exact hpre.1 rfl | exact hpre.2.1 rfl | exact hpre.2.2.1 rfl | exact hpre.2.2.2.1 rfl | exact hpre.2.2.2.2.1 rfl | exact hpre.2.2.2.2.2.1 rfl | exact hpre.2.2.2.2.2.2.1 rfl | exact hpre.2.2.2.2.2.2.2.1 rfl | exact hpre.2.2.2.2.2.2.2.2.1 rfl | exact hpre.2.2.2.2.2.2.2.2.2.1 rfl)
      have e57 := ((hA 57).trans (show _ = vs 21 by kernel_rfl)).trans (by first | exact hpre.1 rfl | exact hpre.2.1 rfl | exact hpre.2.2.1 rfl | exact hpre.2.2.2.1 rfl | exact hpre.2.2.2.2.1 rfl | exact hpre.2.2.2.2.2.1 rfl | exact hpre.2.2.2.2.2.2.1 rfl | exact hpre.2.2.2.2.2.2.2.1 rfl | exact hpre.2.2.2.2.2.2.2.2.1 rfl | exact hpre.2.2.2.2.2.2.2.2.2.1 rfl)
      clear hA hpre
      go_simp
      first | exact hK _ _ hB rfl (fun _ _ h => h) | exact hK _ _ hB trivial (fun _ _ h => h) | (rw [if_neg (by omega)]; go_simp; exact hK _ _ hB rfl (fun _ _ h => h))
    · intro vs Wx A hA hB hpre K hK
      have e58 := ((hA 58).trans (show _ = vs 22 by kernel_rfl)).trans (by first | exact hpre.1 rfl | exact hpre.2.1 rfl | exact hpre.2.2.1 rfl | exact hpre.2.2.2.1 rfl | exact hpre.2.2.2.2.1 rfl | exact hpre.2.2.2.2.2.1 rfl | exact hpre.2.2.2.2.2.2.1 rfl | exact hpre.2.2.2.2.2.2.2.1 rfl | exact hpre.2.2.2.2.2.2.2.2.1 rfl | exact hpre.2.2.2.2.2.2.2.2.2.1 rfl)
      clear hA hpre
      go_simp
      first | exact hK _ _ hB rfl (fun _ _ h => h) | exact hK _ _ hB trivial (fun _ _ h => h) | (rw [if_neg (by omega)]; go_simp; exact hK _ _ hB rfl (fun _ _ h => h))
    · intro vs Wx A hA hB hpre
      have eg := ((hA 59).trans (show _ = vs 23 by kernel_rfl)).trans (by first | exact hpre.1 rfl | exact hpre.2.1 rfl | exact hpre.2.2.1 rfl | exact hpre.2.2.2.1 rfl | exact hpre.2.2.2.2.1 rfl | exact hpre.2.2.2.2.2.1 rfl | exact hpre.2.2.2.2.2.2.1 rfl | exact hpre.2.2.2.2.2.2.2.1 rfl | exact hpre.2.2.2.2.2.2.2.2.1 rfl | exact hpre.2.2.2.2.2.2.2.2.2.1 rfl)
      refine ⟨true, eg, fun _ K hK => ?_, fun h => absurd rfl h⟩
      have e9 := (hA 9).trans (show _ = Value.pointer (some ⟨q, 0, none⟩) by kernel_rfl)
      clear hA hpre
      go_simp
      first | exact hK _ _ hB rfl (fun _ _ h => h) | exact hK _ _ hB trivial (fun _ _ h => h) | (rw [if_neg (by omega)]; go_simp; exact hK _ _ hB rfl (fun _ _ h => h))
    · intro vs Wx A hA hB hpre
      have eg := ((hA 59).trans (show _ = vs 23 by kernel_rfl)).trans (by first | exact hpre.1 rfl | exact hpre.2.1 rfl | exact hpre.2.2.1 rfl | exact hpre.2.2.2.1 rfl | exact hpre.2.2.2.2.1 rfl | exact hpre.2.2.2.2.2.1 rfl | exact hpre.2.2.2.2.2.2.1 rfl | exact hpre.2.2.2.2.2.2.2.1 rfl | exact hpre.2.2.2.2.2.2.2.2.1 rfl | exact hpre.2.2.2.2.2.2.2.2.2.1 rfl)
      refine ⟨true, eg, fun _ K hK => ?_, fun h => absurd rfl h⟩
      have e60 := ((hA 60).trans (show _ = vs 24 by kernel_rfl)).trans (by first | exact hpre.1 rfl | exact hpre.2.1 rfl | exact hpre.2.2.1 rfl | exact hpre.2.2.2.1 rfl | exact hpre.2.2.2.2.1 rfl | exact hpre.2.2.2.2.2.1 rfl | exact hpre.2.2.2.2.2.2.1 rfl | exact hpre.2.2.2.2.2.2.2.1 rfl | exact hpre.2.2.2.2.2.2.2.2.1 rfl | exact hpre.2.2.2.2.2.2.2.2.2.1 rfl)
      obtain ⟨x0, x1, x2, x3⟩ := four (HXK.out Wx hB)
      clear hA hpre
      go_simp
      first | exact hK _ _ hB rfl (fun _ _ h => h) | exact hK _ _ hB trivial (fun _ _ h => h) | (rw [if_neg (by omega)]; go_simp; exact hK _ _ hB rfl (fun _ _ h => h))
    · intro vs Wx A hA hB hpre
      have eg := ((hA 59).trans (show _ = vs 23 by kernel_rfl)).trans (by first | exact hpre.1 rfl | exact hpre.2.1 rfl | exact hpre.2.2.1 rfl | exact hpre.2.2.2.1 rfl | exact hpre.2.2.2.2.1 rfl | exact hpre.2.2.2.2.2.1 rfl | exact hpre.2.2.2.2.2.2.1 rfl | exact hpre.2.2.2.2.2.2.2.1 rfl | exact hpre.2.2.2.2.2.2.2.2.1 rfl | exact hpre.2.2.2.2.2.2.2.2.2.1 rfl)
      refine ⟨true, eg, fun _ K hK => ?_, fun h => absurd rfl h⟩
      have e61 := ((hA 61).trans (show _ = vs 25 by kernel_rfl)).trans (by first | exact hpre.1 rfl | exact hpre.2.1 rfl | exact hpre.2.2.1 rfl | exact hpre.2.2.2.1 rfl | exact hpre.2.2.2.2.1 rfl | exact hpre.2.2.2.2.2.1 rfl | exact hpre.2.2.2.2.2.2.1 rfl | exact hpre.2.2.2.2.2.2.2.1 rfl | exact hpre.2.2.2.2.2.2.2.2.1 rfl | exact hpre.2.2.2.2.2.2.2.2.2.1 rfl)
      clear hA hpre
      go_simp
      first | exact hK _ _ hB rfl (fun _ _ h => h) | exact hK _ _ hB trivial (fun _ _ h => h) | (rw [if_neg (by omega)]; go_simp; exact hK _ _ hB rfl (fun _ _ h => h))
    · intro vs Wx A hA hB hpre
      have eg := ((hA 59).trans (show _ = vs 23 by kernel_rfl)).trans (by first | exact hpre.1 rfl | exact hpre.2.1 rfl | exact hpre.2.2.1 rfl | exact hpre.2.2.2.1 rfl | exact hpre.2.2.2.2.1 rfl | exact hpre.2.2.2.2.2.1 rfl | exact hpre.2.2.2.2.2.2.1 rfl | exact hpre.2.2.2.2.2.2.2.1 rfl | exact hpre.2.2.2.2.2.2.2.2.1 rfl | exact hpre.2.2.2.2.2.2.2.2.2.1 rfl)
      refine ⟨true, eg, fun _ K hK => ?_, fun h => absurd rfl h⟩
      have e62 := ((hA 62).trans (show _ = vs 26 by kernel_rfl)).trans (by first | exact hpre.1 rfl | exact hpre.2.1 rfl | exact hpre.2.2.1 rfl | exact hpre.2.2.2.1 rfl | exact hpre.2.2.2.2.1 rfl | exact hpre.2.2.2.2.2.1 rfl | exact hpre.2.2.2.2.2.2.1 rfl | exact hpre.2.2.2.2.2.2.2.1 rfl | exact hpre.2.2.2.2.2.2.2.2.1 rfl | exact hpre.2.2.2.2.2.2.2.2.2.1 rfl)
      clear hA hpre
      go_simp
      first | exact hK _ _ hB rfl (fun _ _ h => h) | exact hK _ _ hB trivial (fun _ _ h => h) | (rw [if_neg (by omega)]; go_simp; exact hK _ _ hB rfl (fun _ _ h => h))
    · intro vs Wx A hA hB hpre
      have eg := ((hA 63).trans (show _ = vs 27 by kernel_rfl)).trans (by first | exact hpre.1 rfl | exact hpre.2.1 rfl | exact hpre.2.2.1 rfl | exact hpre.2.2.2.1 rfl | exact hpre.2.2.2.2.1 rfl | exact hpre.2.2.2.2.2.1 rfl | exact hpre.2.2.2.2.2.2.1 rfl | exact hpre.2.2.2.2.2.2.2.1 rfl | exact hpre.2.2.2.2.2.2.2.2.1 rfl | exact hpre.2.2.2.2.2.2.2.2.2.1 rfl)
      exact ⟨true, eg, fun h => (by cases h), fun _ => trivial⟩
    · intro vs Wx A hA hB hpre
      have eg := ((hA 63).trans (show _ = vs 27 by kernel_rfl)).trans (by first | exact hpre.1 rfl | exact hpre.2.1 rfl | exact hpre.2.2.1 rfl | exact hpre.2.2.2.1 rfl | exact hpre.2.2.2.2.1 rfl | exact hpre.2.2.2.2.2.1 rfl | exact hpre.2.2.2.2.2.2.1 rfl | exact hpre.2.2.2.2.2.2.2.1 rfl | exact hpre.2.2.2.2.2.2.2.2.1 rfl | exact hpre.2.2.2.2.2.2.2.2.2.1 rfl)
      exact ⟨true, eg, fun h => (by cases h), fun _ => trivial⟩
    · intro vs Wx A hA hB hpre
      have eg := ((hA 59).trans (show _ = vs 23 by kernel_rfl)).trans (by first | exact hpre.1 rfl | exact hpre.2.1 rfl | exact hpre.2.2.1 rfl | exact hpre.2.2.2.1 rfl | exact hpre.2.2.2.2.1 rfl | exact hpre.2.2.2.2.2.1 rfl | exact hpre.2.2.2.2.2.2.1 rfl | exact hpre.2.2.2.2.2.2.2.1 rfl | exact hpre.2.2.2.2.2.2.2.2.1 rfl | exact hpre.2.2.2.2.2.2.2.2.2.1 rfl)
      refine ⟨true, eg, fun _ K hK => ?_, fun h => absurd rfl h⟩
      have e63 := ((hA 63).trans (show _ = vs 27 by kernel_rfl)).trans (by first | exact hpre.1 rfl | exact hpre.2.1 rfl | exact hpre.2.2.1 rfl | exact hpre.2.2.2.1 rfl | exact hpre.2.2.2.2.1 rfl | exact hpre.2.2.2.2.2.1 rfl | exact hpre.2.2.2.2.2.2.1 rfl | exact hpre.2.2.2.2.2.2.2.1 rfl | exact hpre.2.2.2.2.2.2.2.2.1 rfl | exact hpre.2.2.2.2.2.2.2.2.2.1 rfl)
      clear hA hpre
      go_simp
      first | exact hK _ _ hB rfl (fun _ _ h => h) | exact hK _ _ hB trivial (fun _ _ h => h) | (rw [if_neg (by omega)]; go_simp; exact hK _ _ hB rfl (fun _ _ h => h))
    · intro vs Wx A hA hB hpre K hK
      have e59 := ((hA 59).trans (show _ = vs 23 by kernel_rfl)).trans (by first | exact hpre.1 rfl | exact hpre.2.1 rfl | exact hpre.2.2.1 rfl | exact hpre.2.2.2.1 rfl | exact hpre.2.2.2.2.1 rfl | exact hpre.2.2.2.2.2.1 rfl | exact hpre.2.2.2.2.2.2.1 rfl | exact hpre.2.2.2.2.2.2.2.1 rfl | exact hpre.2.2.2.2.2.2.2.2.1 rfl | exact hpre.2.2.2.2.2.2.2.2.2.1 rfl)
      have e66 := ((hA 66).trans (show _ = vs 30 by kernel_rfl)).trans (by first | exact hpre.1 rfl | exact hpre.2.1 rfl | exact hpre.2.2.1 rfl | exact hpre.2.2.2.1 rfl | exact hpre.2.2.2.2.1 rfl | exact hpre.2.2.2.2.2.1 rfl | exact hpre.2.2.2.2.2.2.1 rfl | exact hpre.2.2.2.2.2.2.2.1 rfl | exact hpre.2.2.2.2.2.2.2.2.1 rfl | exact hpre.2.2.2.2.2.2.2.2.2.1 rfl)
      clear hA hpre
      go_simp
      first | exact hK _ _ hB rfl (fun _ _ h => h) | exact hK _ _ hB trivial (fun _ _ h => h) | (rw [if_neg (by omega)]; go_simp; exact hK _ _ hB rfl (fun _ _ h => h))
    · intro vs Wx A hA hB hpre K hK
      have e67 := ((hA 67).trans (show _ = vs 31 by kernel_rfl)).trans (by first | exact hpre.1 rfl | exact hpre.2.1 rfl | exact hpre.2.2.1 rfl | exact hpre.2.2.2.1 rfl | exact hpre.2.2.2.2.1 rfl | exact hpre.2.2.2.2.2.1 rfl | exact hpre.2.2.2.2.2.2.1 rfl | exact hpre.2.2.2.2.2.2.2.1 rfl | exact hpre.2.2.2.2.2.2.2.2.1 rfl | exact hpre.2.2.2.2.2.2.2.2.2.1 rfl)
      clear hA hpre
      go_simp
      first | exact hK _ _ hB rfl (fun _ _ h => h) | exact hK _ _ hB trivial (fun _ _ h => h) | (rw [if_neg (by omega)]; go_simp; exact hK _ _ hB rfl (fun _ _ h => h))
    · intro vs Wx A hA hB hpre
      have eg := ((hA 68).trans (show _ = vs 32 by kernel_rfl)).trans (by first | exact hpre.1 rfl | exact hpre.2.1 rfl | exact hpre.2.2.1 rfl | exact hpre.2.2.2.1 rfl | exact hpre.2.2.2.2.1 rfl | exact hpre.2.2.2.2.2.1 rfl | exact hpre.2.2.2.2.2.2.1 rfl | exact hpre.2.2.2.2.2.2.2.1 rfl | exact hpre.2.2.2.2.2.2.2.2.1 rfl | exact hpre.2.2.2.2.2.2.2.2.2.1 rfl)
      refine ⟨true, eg, fun _ K hK => ?_, fun h => absurd rfl h⟩
      clear hA hpre
      go_simp
      go_at_call 10
      refine (HW.out Wx).mono ?_
      rintro e w4 ⟨rfl, hg⟩
      exact hK _ _ (below_trans hB hg) rfl (fun _ _ h => h)
    · intro vs Wx A hA hB hpre K hK
      have e68 := ((hA 68).trans (show _ = vs 32 by kernel_rfl)).trans (by first | exact hpre.1 rfl | exact hpre.2.1 rfl | exact hpre.2.2.1 rfl | exact hpre.2.2.2.1 rfl | exact hpre.2.2.2.2.1 rfl | exact hpre.2.2.2.2.2.1 rfl | exact hpre.2.2.2.2.2.2.1 rfl | exact hpre.2.2.2.2.2.2.2.1 rfl | exact hpre.2.2.2.2.2.2.2.2.1 rfl | exact hpre.2.2.2.2.2.2.2.2.2.1 rfl)
      have e69 := ((hA 69).trans (show _ = vs 33 by kernel_rfl)).trans (by first | exact hpre.1 rfl | exact hpre.2.1 rfl | exact hpre.2.2.1 rfl | exact hpre.2.2.2.1 rfl | exact hpre.2.2.2.2.1 rfl | exact hpre.2.2.2.2.2.1 rfl | exact hpre.2.2.2.2.2.2.1 rfl | exact hpre.2.2.2.2.2.2.2.1 rfl | exact hpre.2.2.2.2.2.2.2.2.1 rfl | exact hpre.2.2.2.2.2.2.2.2.2.1 rfl)
      clear hA hpre
      go_simp
      first | exact hK _ _ hB rfl (fun _ _ h => h) | exact hK _ _ hB trivial (fun _ _ h => h) | (rw [if_neg (by omega)]; go_simp; exact hK _ _ hB rfl (fun _ _ h => h))
    · intro vs Wx A hA hB hpre K hK
      have e70 := ((hA 70).trans (show _ = vs 34 by kernel_rfl)).trans (by first | exact hpre.1 rfl | exact hpre.2.1 rfl | exact hpre.2.2.1 rfl | exact hpre.2.2.2.1 rfl | exact hpre.2.2.2.2.1 rfl | exact hpre.2.2.2.2.2.1 rfl | exact hpre.2.2.2.2.2.2.1 rfl | exact hpre.2.2.2.2.2.2.2.1 rfl | exact hpre.2.2.2.2.2.2.2.2.1 rfl | exact hpre.2.2.2.2.2.2.2.2.2.1 rfl)
      clear hA hpre
      go_simp
      first | exact hK _ _ hB rfl (fun _ _ h => h) | exact hK _ _ hB trivial (fun _ _ h => h) | (rw [if_neg (by omega)]; go_simp; exact hK _ _ hB rfl (fun _ _ h => h))
    intro vs Wx hB hF
    have h35 : vs 35 = .bool true := hF 35 (by decide)
    have HB6 : Hid (Below w.heap.size w Wx) := below_trans HB2.out hB
    clear hF hB
    simp only [Ri.puts]
    rw [h35]
    clear h35
    go_simp
    go_wp2
    go_ret
    exact ⟨rfl, HB6.out⟩
  · have hPb : (PV == 0) = false := by simpa using hP
    have hRb : (RV == 0) = true := by simpa using hor.resolve_left hP
    clear hP hor hpr hs1 hs2 hv hh
    refine Ri.wp_region_lasting_g (by kernel_rfl) (by kernel_rfl) (by kernel_rfl) (fun Wx => Below W2.heap.size W2 Wx) (fun kz vs wz => (fun kx vx wx => match kx with | 0 => vx = rmv ⟨a0, PV, HV, OO⟩ (.slice mm OO.length km) | 1 => vx = .int .i64 0 | 2 => vx = .bool true | 3 => vx = .bool true | 4 => vx = .pointer (some ⟨q, 1, none⟩) | 5 => vx = .int .i64 PV | 6 => vx = .bool true | 7 => vx = .bool true | 8 => vx = .bool true | 9 => vx = .int .i64 RV | 10 => vx = .bool true | 11 => vx = .bool true | 12 => vx = .bool true | 13 => vx = .pointer (some ⟨q, 1, none⟩) | 14 => vx = .int .i64 PV | 15 => vx = .int .i64 RV | 16 => vx = .int .i64 (SS - a3) | 17 => vx = rmv ⟨a0, PV, HV, OO⟩ (.slice mm OO.length km) | 18 => vx = .int .i64 SS | 19 => vx = .int .i64 a3 | 20 => vx = .int .i64 (SS - a3) | 21 => vx = .bool true | 22 => vx = .bool true | 23 => vx = .bool true | 24 => vx = .pointer (some ⟨q, 1, none⟩) | 25 => vx = .int .i64 PV | 26 => vx = .bool false | 27 => vx = .bool false | 28 => vx = .int .i64 RV | 29 => vx = .bool true | 30 => vx = .bool true | 31 => vx = .bool true | 32 => vx = .bool true | 33 => vx = .bool true | 34 => vx = .bool true | 35 => vx = .bool true | _ => True : Nat → Value → World → Prop) kz (vs kz) wz) (fun kz => [kz]) (by kernel_rfl) (fun jz vs iz vz wz hiz hz => Ri.loc_own (F := (fun kx vx wx => match kx with | 0 => vx = rmv ⟨a0, PV, HV, OO⟩ (.slice mm OO.length km) | 1 => vx = .int .i64 0 | 2 => vx = .bool true | 3 => vx = .bool true | 4 => vx = .pointer (some ⟨q, 1, none⟩) | 5 => vx = .int .i64 PV | 6 => vx = .bool true | 7 => vx = .bool true | 8 => vx = .bool true | 9 => vx = .int .i64 RV | 10 => vx = .bool true | 11 => vx = .bool true | 12 => vx = .bool true | 13 => vx = .pointer (some ⟨q, 1, none⟩) | 14 => vx = .int .i64 PV | 15 => vx = .int .i64 RV | 16 => vx = .int .i64 (SS - a3) | 17 => vx = rmv ⟨a0, PV, HV, OO⟩ (.slice mm OO.length km) | 18 => vx = .int .i64 SS | 19 => vx = .int .i64 a3 | 20 => vx = .int .i64 (SS - a3) | 21 => vx = .bool true | 22 => vx = .bool true | 23 => vx = .bool true | 24 => vx = .pointer (some ⟨q, 1, none⟩) | 25 => vx = .int .i64 PV | 26 => vx = .bool false | 27 => vx = .bool false | 28 => vx = .int .i64 RV | 29 => vx = .bool true | 30 => vx = .bool true | 31 => vx = .bool true | 32 => vx = .bool true | 33 => vx = .bool true | 34 => vx = .bool true | 35 => vx = .bool true | _ => True : Nat → Value → World → Prop)) jz vs iz vz wz hiz hz) HD.out ⟨Or.inl ⟨rfl, ?_⟩, Or.inl ⟨rfl, ?_⟩, Or.inl ⟨rfl, ?_⟩, Or.inl ⟨rfl, ?_⟩, Or.inr ⟨3, true, 39, rfl, rfl, ?_⟩, Or.inr ⟨3, true, 39, rfl, rfl, ?_⟩, Or.inr ⟨3, true, 39, rfl, rfl, ?_⟩, Or.inl ⟨rfl, ?_⟩, Or.inl ⟨rfl, ?_⟩, Or.inr ⟨8, true, 44, rfl, rfl, ?_⟩, Or.inr ⟨8, true, 44, rfl, rfl, ?_⟩, Or.inl ⟨rfl, ?_⟩, Or.inl ⟨rfl, ?_⟩, Or.inr ⟨12, true, 48, rfl, rfl, ?_⟩, Or.inr ⟨12, true, 48, rfl, rfl, ?_⟩, Or.inr ⟨12, true, 48, rfl, rfl, ?_⟩, Or.inr ⟨12, true, 48, rfl, rfl, ?_⟩, Or.inr ⟨12, true, 48, rfl, rfl, ?_⟩, Or.inr ⟨12, true, 48, rfl, rfl, ?_⟩, Or.inr ⟨12, true, 48, rfl, rfl, ?_⟩, Or.inr ⟨12, true, 48, rfl, rfl, ?_⟩, Or.inr ⟨12, true, 48, rfl, rfl, ?_⟩, Or.inl ⟨rfl, ?_⟩, Or.inl ⟨rfl, ?_⟩, Or.inr ⟨23, true, 59, rfl, rfl, ?_⟩, Or.inr ⟨23, true, 59, rfl, rfl, ?_⟩, Or.inr ⟨23, true, 59, rfl, rfl, ?_⟩, Or.inr ⟨23, true, 59, rfl, rfl, ?_⟩, Or.inr ⟨27, false, 63, rfl, rfl, ?_⟩, Or.inr ⟨27, false, 63, rfl, rfl, ?_⟩, Or.inr ⟨23, true, 59, rfl, rfl, ?_⟩, Or.inl ⟨rfl, ?_⟩, Or.inl ⟨rfl, ?_⟩, Or.inr ⟨32, true, 68, rfl, rfl, ?_⟩, Or.inl ⟨rfl, ?_⟩, Or.inl ⟨rfl, ?_⟩, trivial⟩ ?_
    · intro vs Wx A hA hB hpre K hK
      have e9 := (hA 9).trans (show _ = Value.pointer (some ⟨q, 0, none⟩) by kernel_rfl)
      obtain ⟨x0, x1, x2, x3⟩ := four (HXK.out Wx hB)
      clear hA hpre
      go_simp
      first | exact hK _ _ hB rfl (fun _ _ h => h) | exact hK _ _ hB trivial (fun _ _ h => h) | (rw [if_neg (by omega)]; go_simp; exact hK _ _ hB rfl (fun _ _ h => h))
    · intro vs Wx A hA hB hpre K hK
      have e36 := ((hA 36).trans (show _ = vs 0 by kernel_rfl)).trans (by first | exact hpre.1 rfl | exact hpre.2.1 rfl | exact hpre.2.2.1 rfl | exact hpre.2.2.2.1 rfl | exact hpre.2.2.2.2.1 rfl | exact hpre.2.2.2.2.2.1 rfl | exact hpre.2.2.2.2.2.2.1 rfl | exact hpre.2.2.2.2.2.2.2.1 rfl | exact hpre.2.2.2.2.2.2.2.2.1 rfl | exact hpre.2.2.2.2.2.2.2.2.2.1 rfl)
      clear hA hpre
      go_simp
      go_at_call 17
      refine (HCK.out _ Wx (HM3.out Wx hB)).mono ?_
      rintro e w4 ⟨rfl, hg⟩
      exact hK _ _ (below_trans hB hg) rfl (fun _ _ h => h)
    · intro vs Wx A hA hB hpre K hK
      have e37 := ((hA 37).trans (show _ = vs 1 by kernel_rfl)).trans (by first | exact hpre.1 rfl | exact hpre.2.1 rfl | exact hpre.2.2.1 rfl | exact hpre.2.2.2.1 rfl | exact hpre.2.2.2.2.1 rfl | exact hpre.2.2.2.2.2.1 rfl | exact hpre.2.2.2.2.2.2.1 rfl | exact hpre.2.2.2.2.2.2.2.1 rfl | exact hpre.2.2.2.2.2.2.2.2.1 rfl | exact hpre.2.2.2.2.2.2.2.2.2.1 rfl)
      clear hA hpre
      go_simp
      first | exact hK _ _ hB rfl (fun _ _ h => h) | exact hK _ _ hB trivial (fun _ _ h => h) | (rw [if_neg (by omega)]; go_simp; exact hK _ _ hB rfl (fun _ _ h => h))
    · intro vs Wx A hA hB hpre K hK
      have e38 := ((hA 38).trans (show _ = vs 2 by kernel_rfl)).trans (by first | exact hpre.1 rfl | exact hpre.2.1 rfl | exact hpre.2.2.1 rfl | exact hpre.2.2.2.1 rfl | exact hpre.2.2.2.2.1 rfl | exact hpre.2.2.2.2.2.1 rfl | exact hpre.2.2.2.2.2.2.1 rfl | exact hpre.2.2.2.2.2.2.2.1 rfl | exact hpre.2.2.2.2.2.2.2.2.1 rfl | exact hpre.2.2.2.2.2.2.2.2.2.1 rfl)
      clear hA hpre
      go_simp
      first | exact hK _ _ hB rfl (fun _ _ h => h) | exact hK _ _ hB trivial (fun _ _ h => h) | (rw [if_neg (by omega)]; go_simp; exact hK _ _ hB rfl (fun _ _ h => h))
    · intro vs Wx A hA hB hpre
      have eg := ((hA 39).trans (show _ = vs 3 by kernel_rfl)).trans (by first | exact hpre.1 rfl | exact hpre.2.1 rfl | exact hpre.2.2.1 rfl | exact hpre.2.2.2.1 rfl | exact hpre.2.2.2.2.1 rfl | exact hpre.2.2.2.2.2.1 rfl | exact hpre.2.2.2.2.2.2.1 rfl | exact hpre.2.2.2.2.2.2.2.1 rfl | exact hpre.2.2.2.2.2.2.2.2.1 rfl | exact hpre.2.2.2.2.2.2.2.2.2.1 rfl)
      refine ⟨true, eg, fun _ K hK => ?_, fun h => absurd rfl h⟩
      have e9 := (hA 9).trans (show _ = Value.pointer (some ⟨q, 0, none⟩) by kernel_rfl)
      clear hA hpre
      go_simp
      first | exact hK _ _ hB rfl (fun _ _ h => h) | exact hK _ _ hB trivial (fun _ _ h => h) | (rw [if_neg (by omega)]; go_simp; exact hK _ _ hB rfl (fun _ _ h => h))
    · intro vs Wx A hA hB hpre
      have eg := ((hA 39).trans (show _ = vs 3 by kernel_rfl)).trans (by first | exact hpre.1 rfl | exact hpre.2.1 rfl | exact hpre.2.2.1 rfl | exact hpre.2.2.2.1 rfl | exact hpre.2.2.2.2.1 rfl | exact hpre.2.2.2.2.2.1 rfl | exact hpre.2.2.2.2.2.2.1 rfl | exact hpre.2.2.2.2.2.2.2.1 rfl | exact hpre.2.2.2.2.2.2.2.2.1 rfl | exact hpre.2.2.2.2.2.2.2.2.2.1 rfl)
      refine ⟨true, eg, fun _ K hK => ?_, fun h => absurd rfl h⟩
      have e40 := ((hA 40).trans (show _ = vs 4 by kernel_rfl)).trans (by first | exact hpre.1 rfl | exact hpre.2.1 rfl | exact hpre.2.2.1 rfl | exact hpre.2.2.2.1 rfl | exact hpre.2.2.2.2.1 rfl | exact hpre.2.2.2.2.2.1 rfl | exact hpre.2.2.2.2.2.2.1 rfl | exact hpre.2.2.2.2.2.2.2.1 rfl | exact hpre.2.2.2.2.2.2.2.2.1 rfl | exact hpre.2.2.2.2.2.2.2.2.2.1 rfl)
      obtain ⟨x0, x1, x2, x3⟩ := four (HXK.out Wx hB)
      clear hA hpre
      go_simp
      first | exact hK _ _ hB rfl (fun _ _ h => h) | exact hK _ _ hB trivial (fun _ _ h => h) | (rw [if_neg (by omega)]; go_simp; exact hK _ _ hB rfl (fun _ _ h => h))
    · intro vs Wx A hA hB hpre
      have eg := ((hA 39).trans (show _ = vs 3 by kernel_rfl)).trans (by first | exact hpre.1 rfl | exact hpre.2.1 rfl | exact hpre.2.2.1 rfl | exact hpre.2.2.2.1 rfl | exact hpre.2.2.2.2.1 rfl | exact hpre.2.2.2.2.2.1 rfl | exact hpre.2.2.2.2.2.2.1 rfl | exact hpre.2.2.2.2.2.2.2.1 rfl | exact hpre.2.2.2.2.2.2.2.2.1 rfl | exact hpre.2.2.2.2.2.2.2.2.2.1 rfl)
      refine ⟨true, eg, fun _ K hK => ?_, fun h => absurd rfl h⟩
      have e41 := ((hA 41).trans (show _ = vs 5 by kernel_rfl)).trans (by first | exact hpre.1 rfl | exact hpre.2.1 rfl | exact hpre.2.2.1 rfl | exact hpre.2.2.2.1 rfl | exact hpre.2.2.2.2.1 rfl | exact hpre.2.2.2.2.2.1 rfl | exact hpre.2.2.2.2.2.2.1 rfl | exact hpre.2.2.2.2.2.2.2.1 rfl | exact hpre.2.2.2.2.2.2.2.2.1 rfl | exact hpre.2.2.2.2.2.2.2.2.2.1 rfl)
      clear hA hpre
      go_simp
      first | exact hK _ _ hB rfl (fun _ _ h => h) | exact hK _ _ hB trivial (fun _ _ h => h) | (rw [if_neg (by omega)]; go_simp; exact hK _ _ hB rfl (fun _ _ h => h))
    · intro vs Wx A hA hB hpre K hK
      have e39 := ((hA 39).trans (show _ = vs 3 by kernel_rfl)).trans (by first | exact hpre.1 rfl | exact hpre.2.1 rfl | exact hpre.2.2.1 rfl | exact hpre.2.2.2.1 rfl | exact hpre.2.2.2.2.1 rfl | exact hpre.2.2.2.2.2.1 rfl | exact hpre.2.2.2.2.2.2.1 rfl | exact hpre.2.2.2.2.2.2.2.1 rfl | exact hpre.2.2.2.2.2.2.2.2.1 rfl | exact hpre.2.2.2.2.2.2.2.2.2.1 rfl)
      have e42 := ((hA 42).trans (show _ = vs 6 by kernel_rfl)).trans (by first | exact hpre.1 rfl | exact hpre.2.1 rfl | exact hpre.2.2.1 rfl | exact hpre.2.2.2.1 rfl | exact hpre.2.2.2.2.1 rfl | exact hpre.2.2.2.2.2.1 rfl | exact hpre.2.2.2.2.2.2.1 rfl | exact hpre.2.2.2.2.2.2.2.1 rfl | exact hpre.2.2.2.2.2.2.2.2.1 rfl | exact hpre.2.2.2.2.2.2.2.2.2.1 rfl)
      clear hA hpre
      go_simp
      first | exact hK _ _ hB rfl (fun _ _ h => h) | exact hK _ _ hB trivial (fun _ _ h => h) | (rw [if_neg (by omega)]; go_simp; exact hK _ _ hB rfl (fun _ _ h => h))
    · intro vs Wx A hA hB hpre K hK
      have e43 := ((hA 43).trans (show _ = vs 7 by kernel_rfl)).trans (by first | exact hpre.1 rfl | exact hpre.2.1 rfl | exact hpre.2.2.1 rfl | exact hpre.2.2.2.1 rfl | exact hpre.2.2.2.2.1 rfl | exact hpre.2.2.2.2.2.1 rfl | exact hpre.2.2.2.2.2.2.1 rfl | exact hpre.2.2.2.2.2.2.2.1 rfl | exact hpre.2.2.2.2.2.2.2.2.1 rfl | exact hpre.2.2.2.2.2.2.2.2.2.1 rfl)
      clear hA hpre
      go_simp
      first | exact hK _ _ hB rfl (fun _ _ h => h) | exact hK _ _ hB trivial (fun _ _ h => h) | (rw [if_neg (by omega)]; go_simp; exact hK _ _ hB rfl (fun _ _ h => h))
    · intro vs Wx A hA hB hpre
      have eg := ((hA 44).trans (show _ = vs 8 by kernel_rfl)).trans (by first | exact hpre.1 rfl | exact hpre.2.1 rfl | exact hpre.2.2.1 rfl | exact hpre.2.2.2.1 rfl | exact hpre.2.2.2.2.1 rfl | exact hpre.2.2.2.2.2.1 rfl | exact hpre.2.2.2.2.2.2.1 rfl | exact hpre.2.2.2.2.2.2.2.1 rfl | exact hpre.2.2.2.2.2.2.2.2.1 rfl | exact hpre.2.2.2.2.2.2.2.2.2.1 rfl)
      refine ⟨true, eg, fun _ K hK => ?_, fun h => absurd rfl h⟩
      have e11 := (hA 11).trans (show _ = Value.int .i64 RV by kernel_rfl)
      clear hA hpre
      go_simp
      first | exact hK _ _ hB rfl (fun _ _ h => h) | exact hK _ _ hB trivial (fun _ _ h => h) | (rw [if_neg (by omega)]; go_simp; exact hK _ _ hB rfl (fun _ _ h => h))
    · intro vs Wx A hA hB hpre
      have eg := ((hA 44).trans (show _ = vs 8 by kernel_rfl)).trans (by first | exact hpre.1 rfl | exact hpre.2.1 rfl | exact hpre.2.2.1 rfl | exact hpre.2.2.2.1 rfl | exact hpre.2.2.2.2.1 rfl | exact hpre.2.2.2.2.2.1 rfl | exact hpre.2.2.2.2.2.2.1 rfl | exact hpre.2.2.2.2.2.2.2.1 rfl | exact hpre.2.2.2.2.2.2.2.2.1 rfl | exact hpre.2.2.2.2.2.2.2.2.2.1 rfl)
      refine ⟨true, eg, fun _ K hK => ?_, fun h => absurd rfl h⟩
      have e45 := ((hA 45).trans (show _ = vs 9 by kernel_rfl)).trans (by first | exact hpre.1 rfl | exact hpre.2.1 rfl | exact hpre.2.2.1 rfl | exact hpre.2.2.2.1 rfl | exact hpre.2.2.2.2.1 rfl | exact hpre.2.2.2.2.2.1 rfl | exact hpre.2.2.2.2.2.2.1 rfl | exact hpre.2.2.2.2.2.2.2.1 rfl | exact hpre.2.2.2.2.2.2.2.2.1 rfl | exact hpre.2.2.2.2.2.2.2.2.2.1 rfl)
      clear hA hpre
      go_simp
      first | exact hK _ _ hB rfl (fun _ _ h => h) | exact hK _ _ hB trivial (fun _ _ h => h) | (rw [if_neg (by omega)]; go_simp; exact hK _ _ hB rfl (fun _ _ h => h))
    · intro vs Wx A hA hB hpre K hK
      have e44 := ((hA 44).trans (show _ = vs 8 by kernel_rfl)).trans (by first | exact hpre.1 rfl | exact hpre.2.1 rfl | exact hpre.2.2.1 rfl | exact hpre.2.2.2.1 rfl | exact hpre.2.2.2.2.1 rfl | exact hpre.2.2.2.2.2.1 rfl | exact hpre.2.2.2.2.2.2.1 rfl | exact hpre.2.2.2.2.2.2.2.1 rfl | exact hpre.2.2.2.2.2.2.2.2.1 rfl | exact hpre.2.2.2.2.2.2.2.2.2.1 rfl)
      have e46 := ((hA 46).trans (show _ = vs 10 by kernel_rfl)).trans (by first | exact hpre.1 rfl | exact hpre.2.1 rfl | exact hpre.2.2.1 rfl | exact hpre.2.2.2.1 rfl | exact hpre.2.2.2.2.1 rfl | exact hpre.2.2.2.2.2.1 rfl | exact hpre.2.2.2.2.2.2.1 rfl | exact hpre.2.2.2.2.2.2.2.1 rfl | exact hpre.2.2.2.2.2.2.2.2.1 rfl | exact hpre.2.2.2.2.2.2.2.2.2.1 rfl)
      clear hA hpre
      go_simp
      first | exact hK _ _ hB rfl (fun _ _ h => h) | exact hK _ _ hB trivial (fun _ _ h => h) | (rw [if_neg (by omega)]; go_simp; exact hK _ _ hB rfl (fun _ _ h => h))
    · intro vs Wx A hA hB hpre K hK
      have e47 := ((hA 47).trans (show _ = vs 11 by kernel_rfl)).trans (by first | exact hpre.1 rfl | exact hpre.2.1 rfl | exact hpre.2.2.1 rfl | exact hpre.2.2.2.1 rfl | exact hpre.2.2.2.2.1 rfl | exact hpre.2.2.2.2.2.1 rfl | exact hpre.2.2.2.2.2.2.1 rfl | exact hpre.2.2.2.2.2.2.2.1 rfl | exact hpre.2.2.2.2.2.2.2.2.1 rfl | exact hpre.2.2.2.2.2.2.2.2.2.1 rfl)
      clear hA hpre
      go_simp
      first | exact hK _ _ hB rfl (fun _ _ h => h) | exact hK _ _ hB trivial (fun _ _ h => h) | (rw [if_neg (by omega)]; go_simp; exact hK _ _ hB rfl (fun _ _ h => h))
    · intro vs Wx A hA hB hpre
      have eg := ((hA 48).trans (show _ = vs 12 by kernel_rfl)).trans (by first | exact hpre.1 rfl | exact hpre.2.1 rfl | exact hpre.2.2.1 rfl | exact hpre.2.2.2.1 rfl | exact hpre.2.2.2.2.1 rfl | exact hpre.2.2.2.2.2.1 rfl | exact hpre.2.2.2.2.2.2.1 rfl | exact hpre.2.2.2.2.2.2.2.1 rfl | exact hpre.2.2.2.2.2.2.2.2.1 rfl | exact hpre.2.2.2.2.2.2.2.2.2.1 rfl)
      refine ⟨true, eg, fun _ K hK => ?_, fun h => absurd rfl h⟩
      have e9 := (hA 9).trans (show _ = Value.pointer (some ⟨q, 0, none⟩) by kernel_rfl)
      clear hA hpre
      go_simp
      first | exact hK _ _ hB rfl (fun _ _ h => h) | exact hK _ _ hB trivial (fun _ _ h => h) | (rw [if_neg (by omega)]; go_simp; exact hK _ _ hB rfl (fun _ _ h => h))
    · intro vs Wx A hA hB hpre
      have eg := ((hA 48).trans (show _ = vs 12 by kernel_rfl)).trans (by first | exact hpre.1 rfl | exact hpre.2.1 rfl | exact hpre.2.2.1 rfl | exact hpre.2.2.2.1 rfl | exact hpre.2.2.2.2.1 rfl | exact hpre.2.2.2.2.2.1 rfl | exact hpre.2.2.2.2.2.2.1 rfl | exact hpre.2.2.2.2.2.2.2.1 rfl | exact hpre.2.2.2.2.2.2.2.2.1 rfl | exact hpre.2.2.2.2.2.2.2.2.2.1 rfl)
      refine ⟨true, eg, fun _ K hK => ?_, fun h => absurd rfl h⟩
      have e49 := ((hA 49).trans (show _ = vs 13 by kernel_rfl)).trans (by first | exact hpre.1 rfl | exact hpre.2.1 rfl | exact hpre.2.2.1 rfl | exact hpre.2.2.2.1 rfl | exact hpre.2.2.2.2.1 rfl | exact hpre.2.2.2.2.2.1 rfl | exact hpre.2.2.2.2.2.2.1 rfl | exact hpre.2.2.2.2.2.2.2.1 rfl | exact hpre.2.2.2.2.2.2.2.2.1 rfl | exact hpre.2.2.2.2.2.2.2.2.2.1 rfl)
      obtain ⟨x0, x1, x2, x3⟩ := four (HXK.out Wx hB)
      clear hA hpre
      go_simp
      first | exact hK _ _ hB rfl (fun _ _ h => h) | exact hK _ _ hB trivial (fun _ _ h => h) | (rw [if_neg (by omega)]; go_simp; exact hK _ _ hB rfl (fun _ _ h => h))
    · intro vs Wx A hA hB hpre
      have eg := ((hA 48).trans (show _ = vs 12 by kernel_rfl)).trans (by first | exact hpre.1 rfl | exact hpre.2.1 rfl | exact hpre.2.2.1 rfl | exact hpre.2.2.2.1 rfl | exact hpre.2.2.2.2.1 rfl | exact hpre.2.2.2.2.2.1 rfl | exact hpre.2.2.2.2.2.2.1 rfl | exact hpre.2.2.2.2.2.2.2.1 rfl | exact hpre.2.2.2.2.2.2.2.2.1 rfl | exact hpre.2.2.2.2.2.2.2.2.2.1 rfl)
      refine ⟨true, eg, fun _ K hK => ?_, fun h => absurd rfl h⟩
      have e11 := (hA 11).trans (show _ = Value.int .i64 RV by kernel_rfl)
      clear hA hpre
      go_simp
      first | exact hK _ _ hB rfl (fun _ _ h => h) | exact hK _ _ hB trivial (fun _ _ h => h) | (rw [if_neg (by omega)]; go_simp; exact hK _ _ hB rfl (fun _ _ h => h))
    · intro vs Wx A hA hB hpre
      have eg := ((hA 48).trans (show _ = vs 12 by kernel_rfl)).trans (by first | exact hpre.1 rfl | exact hpre.2.1 rfl | exact hpre.2.2.1 rfl | exact hpre.2.2.2.1 rfl | exact hpre.2.2.2.2.1 rfl | exact hpre.2.2.2.2.2.1 rfl | exact hpre.2.2.2.2.2.2.1 rfl | exact hpre.2.2.2.2.2.2.2.1 rfl | exact hpre.2.2.2.2.2.2.2.2.1 rfl | exact hpre.2.2.2.2.2.2.2.2.2.1 rfl)
      refine ⟨true, eg, fun _ K hK => ?_, fun h => absurd rfl h⟩
      have e50 := ((hA 50).trans (show _ = vs 14 by kernel_rfl)).trans (by first | exact hpre.1 rfl | exact hpre.2.1 rfl | exact hpre.2.2.1 rfl | exact hpre.2.2.2.1 rfl | exact hpre.2.2.2.2.1 rfl | exact hpre.2.2.2.2.2.1 rfl | exact hpre.2.2.2.2.2.2.1 rfl | exact hpre.2.2.2.2.2.2.2.1 rfl | exact hpre.2.2.2.2.2.2.2.2.1 rfl | exact hpre.2.2.2.2.2.2.2.2.2.1 rfl)
      have e51 := ((hA 51).trans (show _ = vs 15 by kernel_rfl)).trans (by first | exact hpre.1 rfl | exact hpre.2.1 rfl | exact hpre.2.2.1 rfl | exact hpre.2.2.2.1 rfl | exact hpre.2.2.2.2.1 rfl | exact hpre.2.2.2.2.2.1 rfl | exact hpre.2.2.2.2.2.2.1 rfl | exact hpre.2.2.2.2.2.2.2.1 rfl | exact hpre.2.2.2.2.2.2.2.2.1 rfl | exact hpre.2.2.2.2.2.2.2.2.2.1 rfl)
      clear hA hpre
      go_simp
      first | exact hK _ _ hB rfl (fun _ _ h => h) | exact hK _ _ hB trivial (fun _ _ h => h) | (rw [if_neg (by omega)]; go_simp; exact hK _ _ hB rfl (fun _ _ h => h))
    · intro vs Wx A hA hB hpre
      have eg := ((hA 48).trans (show _ = vs 12 by kernel_rfl)).trans (by first | exact hpre.1 rfl | exact hpre.2.1 rfl | exact hpre.2.2.1 rfl | exact hpre.2.2.2.1 rfl | exact hpre.2.2.2.2.1 rfl | exact hpre.2.2.2.2.2.1 rfl | exact hpre.2.2.2.2.2.2.1 rfl | exact hpre.2.2.2.2.2.2.2.1 rfl | exact hpre.2.2.2.2.2.2.2.2.1 rfl | exact hpre.2.2.2.2.2.2.2.2.2.1 rfl)
      refine ⟨true, eg, fun _ K hK => ?_, fun h => absurd rfl h⟩
      have e9 := (hA 9).trans (show _ = Value.pointer (some ⟨q, 0, none⟩) by kernel_rfl)
      obtain ⟨x0, x1, x2, x3⟩ := four (HXK.out Wx hB)
      clear hA hpre
      go_simp
      first | exact hK _ _ hB rfl (fun _ _ h => h) | exact hK _ _ hB trivial (fun _ _ h => h) | (rw [if_neg (by omega)]; go_simp; exact hK _ _ hB rfl (fun _ _ h => h))
    · intro vs Wx A hA hB hpre
      have eg := ((hA 48).trans (show _ = vs 12 by kernel_rfl)).trans (by first | exact hpre.1 rfl | exact hpre.2.1 rfl | exact hpre.2.2.1 rfl | exact hpre.2.2.2.1 rfl | exact hpre.2.2.2.2.1 rfl | exact hpre.2.2.2.2.2.1 rfl | exact hpre.2.2.2.2.2.2.1 rfl | exact hpre.2.2.2.2.2.2.2.1 rfl | exact hpre.2.2.2.2.2.2.2.2.1 rfl | exact hpre.2.2.2.2.2.2.2.2.2.1 rfl)
      refine ⟨true, eg, fun _ K hK => ?_, fun h => absurd rfl h⟩
      have e53 := ((hA 53).trans (show _ = vs 17 by kernel_rfl)).trans (by first | exact hpre.1 rfl | exact hpre.2.1 rfl | exact hpre.2.2.1 rfl | exact hpre.2.2.2.1 rfl | exact hpre.2.2.2.2.1 rfl | exact hpre.2.2.2.2.2.1 rfl | exact hpre.2.2.2.2.2.2.1 rfl | exact hpre.2.2.2.2.2.2.2.1 rfl | exact hpre.2.2.2.2.2.2.2.2.1 rfl | exact hpre.2.2.2.2.2.2.2.2.2.1 rfl)
      clear hA hpre
      go_simp
      go_at_call 20
      refine (HSU.out _ Wx (HM3.out Wx hB)).mono ?_
      rintro e w4 ⟨rfl, hg⟩
      exact hK _ _ (below_trans hB hg) rfl (fun _ _ h => h)
    · intro vs Wx A hA hB hpre
      have eg := ((hA 48).trans (show _ = vs 12 by kernel_rfl)).trans (by first | exact hpre.1 rfl | exact hpre.2.1 rfl | exact hpre.2.2.1 rfl | exact hpre.2.2.2.1 rfl | exact hpre.2.2.2.2.1 rfl | exact hpre.2.2.2.2.2.1 rfl | exact hpre.2.2.2.2.2.2.1 rfl | exact hpre.2.2.2.2.2.2.2.1 rfl | exact hpre.2.2.2.2.2.2.2.2.1 rfl | exact hpre.2.2.2.2.2.2.2.2.2.1 rfl)
      refine ⟨true, eg, fun _ K hK => ?_, fun h => absurd rfl h⟩
      have e3 := (hA 3).trans (show _ = Value.int .i64 a3 by kernel_rfl)
      clear hA hpre
      go_simp
      first | exact hK _ _ hB rfl (fun _ _ h => h) | exact hK _ _ hB trivial (fun _ _ h => h) | (rw [if_neg (by omega)]; go_simp; exact hK _ _ hB rfl (fun _ _ h => h))
    · intro vs Wx A hA hB hpre
      have eg := ((hA 48).trans (show _ = vs 12 by kernel_rfl)).trans (by first | exact hpre.1 rfl | exact hpre.2.1 rfl | exact hpre.2.2.1 rfl | exact hpre.2.2.2.1 rfl | exact hpre.2.2.2.2.1 rfl | exact hpre.2.2.2.2.2.1 rfl | exact hpre.2.2.2.2.2.2.1 rfl | exact hpre.2.2.2.2.2.2.2.1 rfl | exact hpre.2.2.2.2.2.2.2.2.1 rfl | exact hpre.2.2.2.2.2.2.2.2.2.1 rfl)
      refine ⟨true, eg, fun _ K hK => ?_, fun h => absurd rfl h⟩
      have e54 := ((hA 54).trans (show _ = vs 18 by kernel_rfl)).trans (by first | exact hpre.1 rfl | exact hpre.2.1 rfl | exact hpre.2.2.1 rfl | exact hpre.2.2.2.1 rfl | exact hpre.2.2.2.2.1 rfl | exact hpre.2.2.2.2.2.1 rfl | exact hpre.2.2.2.2.2.2.1 rfl | exact hpre.2.2.2.2.2.2.2.1 rfl | exact hpre.2.2.2.2.2.2.2.2.1 rfl | exact hpre.2.2.2.2.2.2.2.2.2.1 rfl)
      have e55 := ((hA 55).trans (show _ = vs 19 by kernel_rfl)).trans (by first | exact hpre.1 rfl | exact hpre.2.1 rfl | exact hpre.2.2.1 rfl | exact hpre.2.2.2.1 rfl | exact hpre.2.2.2.2.1 rfl | exact hpre.2.2.2.2.2.1 rfl | exact hpre.2.2.2.2.2.2.1 rfl | exact hpre.2.2.2.2.2.2.2.1 rfl | exact hpre.2.2.2.2.2.2.2.2.1 rfl | exact hpre.2.2.2.2.2.2.2.2.2.1 rfl)
      clear hA hpre
      go_simp
      first | exact hK _ _ hB rfl (fun _ _ h => h) | exact hK _ _ hB trivial (fun _ _ h => h) | (rw [if_neg (by omega)]; go_simp; exact hK _ _ hB rfl (fun _ _ h => h))
    · intro vs Wx A hA hB hpre
      have eg := ((hA 48).trans (show _ = vs 12 by kernel_rfl)).trans (by first | exact hpre.1 rfl | exact hpre.2.1 rfl | exact hpre.2.2.1 rfl | exact hpre.2.2.2.1 rfl | exact hpre.2.2.2.2.1 rfl | exact hpre.2.2.2.2.2.1 rfl | exact hpre.2.2.2.2.2.2.1 rfl | exact hpre.2.2.2.2.2.2.2.1 rfl | exact hpre.2.2.2.2.2.2.2.2.1 rfl | exact hpre.2.2.2.2.2.2.2.2.2.1 rfl)
      refine ⟨true, eg, fun _ K hK => ?_, fun h => absurd rfl h⟩
      have e52 := ((hA 52).trans (show _ = vs 16 by kernel_rfl)).trans (by first | exact hpre.1 rfl | exact hpre.2.1 rfl | exact hpre.2.2.1 rfl | exact hpre.2.2.2.1 rfl | exact hpre.2.2.2.2.1 rfl | exact hpre.2.2.2.2.2.1 rfl | exact hpre.2.2.2.2.2.2.1 rfl | exact hpre.2.2.2.2.2.2.2.1 rfl | exact hpre.2.2.2.2.2.2.2.2.1 rfl | exact hpre.2.2.2.2.2.2.2.2.2.1 rfl)
      have e56 := ((hA 56).trans (show _ = vs 20 by kernel_rfl)).trans (by first | exact hpre.1 rfl | exact hpre.2.1 rfl | exact hpre.2.2.1 rfl | exact hpre.2.2.2.1 rfl | exact hpre.2.2.2.2.1 rfl | exact hpre.2.2.2.2.2.1 rfl | exact hpre.2.2.2.2.2.2.1 rfl | exact hpre.2.2.2.2.2.2.2.1 rfl | exact hpre.2.2.2.2.2.2.2.2.1 rfl | exact hpre.2.2.2.2.2.2.2.2.2.1 rfl)
      clear hA hpre
      go_simp
      first | exact hK _ _ hB rfl (fun _ _ h => h) | exact hK _ _ hB trivial (fun _ _ h => h) | (rw [if_neg (by omega)]; go_simp; exact hK _ _ hB rfl (fun _ _ h => h))
    · intro vs Wx A hA hB hpre K hK
      have e48 := ((hA 48).trans (show _ = vs 12 by kernel_rfl)).trans (by first | exact hpre.1 rfl | exact hpre.2.1 rfl | exact hpre.2.2.1 rfl | exact hpre.2.2.2.1 rfl | exact hpre.2.2.2.2.1 rfl | exact hpre.2.2.2.2.2.1 rfl | exact hpre.2.2.2.2.2.2.1 rfl | exact hpre.2.2.2.2.2.2.2.1 rfl | exact hpre.2.2.2.2.2.2.2.2.1 rfl | exact hpre.2.2.2.2.2.2.2.2.2.1 rfl)
      have e57 := ((hA 57).trans (show _ = vs 21 by kernel_rfl)).trans (by first | exact hpre.1 rfl | exact hpre.2.1 rfl | exact hpre.2.2.1 rfl | exact hpre.2.2.2.1 rfl | exact hpre.2.2.2.2.1 rfl | exact hpre.2.2.2.2.2.1 rfl | exact hpre.2.2.2.2.2.2.1 rfl | exact hpre.2.2.2.2.2.2.2.1 rfl | exact hpre.2.2.2.2.2.2.2.2.1 rfl | exact hpre.2.2.2.2.2.2.2.2.2.1 rfl)
      clear hA hpre
      go_simp
      first | exact hK _ _ hB rfl (fun _ _ h => h) | exact hK _ _ hB trivial (fun _ _ h => h) | (rw [if_neg (by omega)]; go_simp; exact hK _ _ hB rfl (fun _ _ h => h))
    · intro vs Wx A hA hB hpre K hK
      have e58 := ((hA 58).trans (show _ = vs 22 by kernel_rfl)).trans (by first | exact hpre.1 rfl | exact hpre.2.1 rfl | exact hpre.2.2.1 rfl | exact hpre.2.2.2.1 rfl | exact hpre.2.2.2.2.1 rfl | exact hpre.2.2.2.2.2.1 rfl | exact hpre.2.2.2.2.2.2.1 rfl | exact hpre.2.2.2.2.2.2.2.1 rfl | exact hpre.2.2.2.2.2.2.2.2.1 rfl | exact hpre.2.2.2.2.2.2.2.2.2.1 rfl)
      clear hA hpre
      go_simp
      first | exact hK _ _ hB rfl (fun _ _ h => h) | exact hK _ _ hB trivial (fun _ _ h => h) | (rw [if_neg (by omega)]; go_simp; exact hK _ _ hB rfl (fun _ _ h => h))
    · intro vs Wx A hA hB hpre
      have eg := ((hA 59).trans (show _ = vs 23 by kernel_rfl)).trans (by first | exact hpre.1 rfl | exact hpre.2.1 rfl | exact hpre.2.2.1 rfl | exact hpre.2.2.2.1 rfl | exact hpre.2.2.2.2.1 rfl | exact hpre.2.2.2.2.2.1 rfl | exact hpre.2.2.2.2.2.2.1 rfl | exact hpre.2.2.2.2.2.2.2.1 rfl | exact hpre.2.2.2.2.2.2.2.2.1 rfl | exact hpre.2.2.2.2.2.2.2.2.2.1 rfl)
      refine ⟨true, eg, fun _ K hK => ?_, fun h => absurd rfl h⟩
      have e9 := (hA 9).trans (show _ = Value.pointer (some ⟨q, 0, none⟩) by kernel_rfl)
      clear hA hpre
      go_simp
      first | exact hK _ _ hB rfl (fun _ _ h => h) | exact hK _ _ hB trivial (fun _ _ h => h) | (rw [if_neg (by omega)]; go_simp; exact hK _ _ hB rfl (fun _ _ h => h))
    · intro vs Wx A hA hB hpre
      have eg := ((hA 59).trans (show _ = vs 23 by kernel_rfl)).trans (by first | exact hpre.1 rfl | exact hpre.2.1 rfl | exact hpre.2.2.1 rfl | exact hpre.2.2.2.1 rfl | exact hpre.2.2.2.2.1 rfl | exact hpre.2.2.2.2.2.1 rfl | exact hpre.2.2.2.2.2.2.1 rfl | exact hpre.2.2.2.2.2.2.2.1 rfl | exact hpre.2.2.2.2.2.2.2.2.1 rfl | exact hpre.2.2.2.2.2.2.2.2.2.1 rfl)
      refine ⟨true, eg, fun _ K hK => ?_, fun h => absurd rfl h⟩
      have e60 := ((hA 60).trans (show _ = vs 24 by kernel_rfl)).trans (by first | exact hpre.1 rfl | exact hpre.2.1 rfl | exact hpre.2.2.1 rfl | exact hpre.2.2.2.1 rfl | exact hpre.2.2.2.2.1 rfl | exact hpre.2.2.2.2.2.1 rfl | exact hpre.2.2.2.2.2.2.1 rfl | exact hpre.2.2.2.2.2.2.2.1 rfl | exact hpre.2.2.2.2.2.2.2.2.1 rfl | exact hpre.2.2.2.2.2.2.2.2.2.1 rfl)
      obtain ⟨x0, x1, x2, x3⟩ := four (HXK.out Wx hB)
      clear hA hpre
      go_simp
      first | exact hK _ _ hB rfl (fun _ _ h => h) | exact hK _ _ hB trivial (fun _ _ h => h) | (rw [if_neg (by omega)]; go_simp; exact hK _ _ hB rfl (fun _ _ h => h))
    · intro vs Wx A hA hB hpre
      have eg := ((hA 59).trans (show _ = vs 23 by kernel_rfl)).trans (by first | exact hpre.1 rfl | exact hpre.2.1 rfl | exact hpre.2.2.1 rfl | exact hpre.2.2.2.1 rfl | exact hpre.2.2.2.2.1 rfl | exact hpre.2.2.2.2.2.1 rfl | exact hpre.2.2.2.2.2.2.1 rfl | exact hpre.2.2.2.2.2.2.2.1 rfl | exact hpre.2.2.2.2.2.2.2.2.1 rfl | exact hpre.2.2.2.2.2.2.2.2.2.1 rfl)
      refine ⟨true, eg, fun _ K hK => ?_, fun h => absurd rfl h⟩
      have e61 := ((hA 61).trans (show _ = vs 25 by kernel_rfl)).trans (by first | exact hpre.1 rfl | exact hpre.2.1 rfl | exact hpre.2.2.1 rfl | exact hpre.2.2.2.1 rfl | exact hpre.2.2.2.2.1 rfl | exact hpre.2.2.2.2.2.1 rfl | exact hpre.2.2.2.2.2.2.1 rfl | exact hpre.2.2.2.2.2.2.2.1 rfl | exact hpre.2.2.2.2.2.2.2.2.1 rfl | exact hpre.2.2.2.2.2.2.2.2.2.1 rfl)
      clear hA hpre
      go_simp
      first | exact hK _ _ hB rfl (fun _ _ h => h) | exact hK _ _ hB trivial (fun _ _ h => h) | (rw [if_neg (by omega)]; go_simp; exact hK _ _ hB rfl (fun _ _ h => h))
    · intro vs Wx A hA hB hpre
      have eg := ((hA 59).trans (show _ = vs 23 by kernel_rfl)).trans (by first | exact hpre.1 rfl | exact hpre.2.1 rfl | exact hpre.2.2.1 rfl | exact hpre.2.2.2.1 rfl | exact hpre.2.2.2.2.1 rfl | exact hpre.2.2.2.2.2.1 rfl | exact hpre.2.2.2.2.2.2.1 rfl | exact hpre.2.2.2.2.2.2.2.1 rfl | exact hpre.2.2.2.2.2.2.2.2.1 rfl | exact hpre.2.2.2.2.2.2.2.2.2.1 rfl)
      refine ⟨true, eg, fun _ K hK => ?_, fun h => absurd rfl h⟩
      have e62 := ((hA 62).trans (show _ = vs 26 by kernel_rfl)).trans (by first | exact hpre.1 rfl | exact hpre.2.1 rfl | exact hpre.2.2.1 rfl | exact hpre.2.2.2.1 rfl | exact hpre.2.2.2.2.1 rfl | exact hpre.2.2.2.2.2.1 rfl | exact hpre.2.2.2.2.2.2.1 rfl | exact hpre.2.2.2.2.2.2.2.1 rfl | exact hpre.2.2.2.2.2.2.2.2.1 rfl | exact hpre.2.2.2.2.2.2.2.2.2.1 rfl)
      clear hA hpre
      go_simp
      first | exact hK _ _ hB rfl (fun _ _ h => h) | exact hK _ _ hB trivial (fun _ _ h => h) | (rw [if_neg (by omega)]; go_simp; exact hK _ _ hB rfl (fun _ _ h => h))
    · intro vs Wx A hA hB hpre
      have eg := ((hA 63).trans (show _ = vs 27 by kernel_rfl)).trans (by first | exact hpre.1 rfl | exact hpre.2.1 rfl | exact hpre.2.2.1 rfl | exact hpre.2.2.2.1 rfl | exact hpre.2.2.2.2.1 rfl | exact hpre.2.2.2.2.2.1 rfl | exact hpre.2.2.2.2.2.2.1 rfl | exact hpre.2.2.2.2.2.2.2.1 rfl | exact hpre.2.2.2.2.2.2.2.2.1 rfl | exact hpre.2.2.2.2.2.2.2.2.2.1 rfl)
      refine ⟨false, eg, fun _ K hK => ?_, fun h => absurd rfl h⟩
      have e11 := (hA 11).trans (show _ = Value.int .i64 RV by kernel_rfl)
      clear hA hpre
      go_simp
      first | exact hK _ _ hB rfl (fun _ _ h => h) | exact hK _ _ hB trivial (fun _ _ h => h) | (rw [if_neg (by omega)]; go_simp; exact hK _ _ hB rfl (fun _ _ h => h))
    · intro vs Wx A hA hB hpre
      have eg := ((hA 63).trans (show _ = vs 27 by kernel_rfl)).trans (by first | exact hpre.1 rfl | exact hpre.2.1 rfl | exact hpre.2.2.1 rfl | exact hpre.2.2.2.1 rfl | exact hpre.2.2.2.2.1 rfl | exact hpre.2.2.2.2.2.1 rfl | exact hpre.2.2.2.2.2.2.1 rfl | exact hpre.2.2.2.2.2.2.2.1 rfl | exact hpre.2.2.2.2.2.2.2.2.1 rfl | exact hpre.2.2.2.2.2.2.2.2.2.1 rfl)
      refine ⟨false, eg, fun _ K hK => ?_, fun h => absurd rfl h⟩
      have e64 := ((hA 64).trans (show _ = vs 28 by kernel_rfl)).trans (by first | exact hpre.1 rfl | exact hpre.2.1 rfl | exact hpre.2.2.1 rfl | exact hpre.2.2.2.1 rfl | exact hpre.2.2.2.2.1 rfl | exact hpre.2.2.2.2.2.1 rfl | exact hpre.2.2.2.2.2.2.1 rfl | exact hpre.2.2.2.2.2.2.2.1 rfl | exact hpre.2.2.2.2.2.2.2.2.1 rfl | exact hpre.2.2.2.2.2.2.2.2.2.1 rfl)
      clear hA hpre
      go_simp
      first | exact hK _ _ hB rfl (fun _ _ h => h) | exact hK _ _ hB trivial (fun _ _ h => h) | (rw [if_neg (by omega)]; go_simp; exact hK _ _ hB rfl (fun _ _ h => h))
    · intro vs Wx A hA hB hpre
      have eg := ((hA 59).trans (show _ = vs 23 by kernel_rfl)).trans (by first | exact hpre.1 rfl | exact hpre.2.1 rfl | exact hpre.2.2.1 rfl | exact hpre.2.2.2.1 rfl | exact hpre.2.2.2.2.1 rfl | exact hpre.2.2.2.2.2.1 rfl | exact hpre.2.2.2.2.2.2.1 rfl | exact hpre.2.2.2.2.2.2.2.1 rfl | exact hpre.2.2.2.2.2.2.2.2.1 rfl | exact hpre.2.2.2.2.2.2.2.2.2.1 rfl)
      refine ⟨true, eg, fun _ K hK => ?_, fun h => absurd rfl h⟩
      have e63 := ((hA 63).trans (show _ = vs 27 by kernel_rfl)).trans (by first | exact hpre.1 rfl | exact hpre.2.1 rfl | exact hpre.2.2.1 rfl | exact hpre.2.2.2.1 rfl | exact hpre.2.2.2.2.1 rfl | exact hpre.2.2.2.2.2.1 rfl | exact hpre.2.2.2.2.2.2.1 rfl | exact hpre.2.2.2.2.2.2.2.1 rfl | exact hpre.2.2.2.2.2.2.2.2.1 rfl | exact hpre.2.2.2.2.2.2.2.2.2.1 rfl)
      have e65 := ((hA 65).trans (show _ = vs 29 by kernel_rfl)).trans (by first | exact hpre.1 rfl | exact hpre.2.1 rfl | exact hpre.2.2.1 rfl | exact hpre.2.2.2.1 rfl | exact hpre.2.2.2.2.1 rfl | exact hpre.2.2.2.2.2.1 rfl | exact hpre.2.2.2.2.2.2.1 rfl | exact hpre.2.2.2.2.2.2.2.1 rfl | exact hpre.2.2.2.2.2.2.2.2.1 rfl | exact hpre.2.2.2.2.2.2.2.2.2.1 rfl)
      clear hA hpre
      go_simp
      first | exact hK _ _ hB rfl (fun _ _ h => h) | exact hK _ _ hB trivial (fun _ _ h => h) | (rw [if_neg (by omega)]; go_simp; exact hK _ _ hB rfl (fun _ _ h => h))
    · intro vs Wx A hA hB hpre K hK
      have e59 := ((hA 59).trans (show _ = vs 23 by kernel_rfl)).trans (by first | exact hpre.1 rfl | exact hpre.2.1 rfl | exact hpre.2.2.1 rfl | exact hpre.2.2.2.1 rfl | exact hpre.2.2.2.2.1 rfl | exact hpre.2.2.2.2.2.1 rfl | exact hpre.2.2.2.2.2.2.1 rfl | exact hpre.2.2.2.2.2.2.2.1 rfl | exact hpre.2.2.2.2.2.2.2.2.1 rfl | exact hpre.2.2.2.2.2.2.2.2.2.1 rfl)
      have e66 := ((hA 66).trans (show _ = vs 30 by kernel_rfl)).trans (by first | exact hpre.1 rfl | exact hpre.2.1 rfl | exact hpre.2.2.1 rfl | exact hpre.2.2.2.1 rfl | exact hpre.2.2.2.2.1 rfl | exact hpre.2.2.2.2.2.1 rfl | exact hpre.2.2.2.2.2.2.1 rfl | exact hpre.2.2.2.2.2.2.2.1 rfl | exact hpre.2.2.2.2.2.2.2.2.1 rfl | exact hpre.2.2.2.2.2.2.2.2.2.1 rfl)
      clear hA hpre
      go_simp
      first | exact hK _ _ hB rfl (fun _ _ h => h) | exact hK _ _ hB trivial (fun _ _ h => h) | (rw [if_neg (by omega)]; go_simp; exact hK _ _ hB rfl (fun _ _ h => h))
    · intro vs Wx A hA hB hpre K hK
      have e67 := ((hA 67).trans (show _ = vs 31 by kernel_rfl)).trans (by first | exact hpre.1 rfl | exact hpre.2.1 rfl | exact hpre.2.2.1 rfl | exact hpre.2.2.2.1 rfl | exact hpre.2.2.2.2.1 rfl | exact hpre.2.2.2.2.2.1 rfl | exact hpre.2.2.2.2.2.2.1 rfl | exact hpre.2.2.2.2.2.2.2.1 rfl | exact hpre.2.2.2.2.2.2.2.2.1 rfl | exact hpre.2.2.2.2.2.2.2.2.2.1 rfl)
      clear hA hpre
      go_simp
      first | exact hK _ _ hB rfl (fun _ _ h => h) | exact hK _ _ hB trivial (fun _ _ h => h) | (rw [if_neg (by omega)]; go_simp; exact hK _ _ hB rfl (fun _ _ h => h))
    · intro vs Wx A hA hB hpre
      have eg := ((hA 68).trans (show _ = vs 32 by kernel_rfl)).trans (by first | exact hpre.1 rfl | exact hpre.2.1 rfl | exact hpre.2.2.1 rfl | exact hpre.2.2.2.1 rfl | exact hpre.2.2.2.2.1 rfl | exact hpre.2.2.2.2.2.1 rfl | exact hpre.2.2.2.2.2.2.1 rfl | exact hpre.2.2.2.2.2.2.2.1 rfl | exact hpre.2.2.2.2.2.2.2.2.1 rfl | exact hpre.2.2.2.2.2.2.2.2.2.1 rfl)
      refine ⟨true, eg, fun _ K hK => ?_, fun h => absurd rfl h⟩
      clear hA hpre
      go_simp
      go_at_call 10
      refine (HW.out Wx).mono ?_
      rintro e w4 ⟨rfl, hg⟩
      exact hK _ _ (below_trans hB hg) rfl (fun _ _ h => h)
    · intro vs Wx A hA hB hpre K hK
      have e68 := ((hA 68).trans (show _ = vs 32 by kernel_rfl)).trans (by first | exact hpre.1 rfl | exact hpre.2.1 rfl | exact hpre.2.2.1 rfl | exact hpre.2.2.2.1 rfl | exact hpre.2.2.2.2.1 rfl | exact hpre.2.2.2.2.2.1 rfl | exact hpre.2.2.2.2.2.2.1 rfl | exact hpre.2.2.2.2.2.2.2.1 rfl | exact hpre.2.2.2.2.2.2.2.2.1 rfl | exact hpre.2.2.2.2.2.2.2.2.2.1 rfl)
      have e69 := ((hA 69).trans (show _ = vs 33 by kernel_rfl)).trans (by first | exact hpre.1 rfl | exact hpre.2.1 rfl | exact hpre.2.2.1 rfl | exact hpre.2.2.2.1 rfl | exact hpre.2.2.2.2.1 rfl | exact hpre.2.2.2.2.2.1 rfl | exact hpre.2.2.2.2.2.2.1 rfl | exact hpre.2.2.2.2.2.2.2.1 rfl | exact hpre.2.2.2.2.2.2.2.2.1 rfl | exact hpre.2.2.2.2.2.2.2.2.2.1 rfl)
      clear hA hpre
      go_simp
      first | exact hK _ _ hB rfl (fun _ _ h => h) | exact hK _ _ hB trivial (fun _ _ h => h) | (rw [if_neg (by omega)]; go_simp; exact hK _ _ hB rfl (fun _ _ h => h))
    · intro vs Wx A hA hB hpre K hK
      have e70 := ((hA 70).trans (show _ = vs 34 by kernel_rfl)).trans (by first | exact hpre.1 rfl | exact hpre.2.1 rfl | exact hpre.2.2.1 rfl | exact hpre.2.2.2.1 rfl | exact hpre.2.2.2.2.1 rfl | exact hpre.2.2.2.2.2.1 rfl | exact hpre.2.2.2.2.2.2.1 rfl | exact hpre.2.2.2.2.2.2.2.1 rfl | exact hpre.2.2.2.2.2.2.2.2.1 rfl | exact hpre.2.2.2.2.2.2.2.2.2.1 rfl)
      clear hA hpre
      go_simp
      first | exact hK _ _ hB rfl (fun _ _ h => h) | exact hK _ _ hB trivial (fun _ _ h => h) | (rw [if_neg (by omega)]; go_simp; exact hK _ _ hB rfl (fun _ _ h => h))
    intro vs Wx hB hF
    have h35 : vs 35 = .bool true := hF 35 (by decide)
    have HB6 : Hid (Below w.heap.size w Wx) := below_trans HB2.out hB
    clear hF hB
    simp only [Ri.puts]
    rw [h35]
    clear h35
    go_simp
    go_wp2
    go_ret
    exact ⟨rfl, HB6.out⟩

/-! ### the row's step -/
theorem laidOut : laidOutB Try.prog = true := by kernel_rfl
theorem lifted (os : Os) (started : os.Started) (H : Type) (enc : TypeId × Value → H) :
    ReturnsInHanded {} Try.checked os 5 .any (Rows.remitBalancesSpec.pre6 enc Try.prog Try.f5 Rows.remitBalancesRow.domain false) (Rows.remitBalancesSpec.post enc Try.prog Try.f5 false true false false) := by
  refine returnsInHanded_of_change_shaped (C := Try.checked) own started (by kernel_rfl) Try.func5
    (ChangeSpec.witness6 (enc := enc) (C := Try.checked) false ⟨#[], #[.int .i64 0, .slice none 0 0, .slice none 0 0, .int .i64 0], []⟩ 8 (by kernel_rfl) (by kernel_rfl) (by kernel_rfl) (by kernel_rfl)) ?_
  intro W base args ds gs before hval0 hW hcnd hwt _ _
  have hval : ∀ (j : Nat) t v, Try.f5.params[j]? = some t → args[j]? = some v → Value.okWide Try.prog W .any base t v := hval0
  have hW' := hW
  obtain ⟨p, q, hA0, hV, rfl, hfz, hnd⟩ := hW
  have hA : DataW.TrodAll enc Try.prog W 0 (fun _ => true) true Try.f5.params.toList args.toList ds p := hA0
  rw [Try.params5] at hA hval hwt
  obtain ⟨v0, vs0, d0, ds0, p0, q0, hargs, rfl, rfl, h0, r0⟩ := trodAll_cons hA
  obtain ⟨v1, vs1, d1, ds1, p1, q1, rfl, rfl, rfl, h1, r1⟩ := trodAll_cons r0
  obtain ⟨v2, vs2, d2, ds2, p2, q2, rfl, rfl, rfl, h2, r2⟩ := trodAll_cons r1
  obtain ⟨v3, vs3, d3, ds3, p3, q3, rfl, rfl, rfl, h3, r3⟩ := trodAll_cons r2
  obtain ⟨rfl, rfl, rfl⟩ := trodAll_nil r3
  obtain rfl : args = #[v0, v1, v2, v3] := by cases args; simp_all
  obtain ⟨rfl, rfl⟩ := trodVars_none hV
  have hwl : ∀ z, (z ∈ d0.weights Try.prog 3 → z ≤ reachBytes) ∧ (z ∈ d1.weights Try.prog 22 → z ≤ reachBytes) ∧ (z ∈ d2.weights Try.prog 23 → z ≤ reachBytes) ∧ (z ∈ d3.weights Try.prog 2 → z ≤ reachBytes) := fun z => by
    have h := List.all_eq_true.1 hwt z
    simp only [decide_eq_true_eq] at h
    refine ⟨fun hz => h ?_, fun hz => h ?_, fun hz => h ?_, fun hz => h ?_⟩
    all_goals
      simp only [List.cons_append, List.nil_append, List.toList_toArray, List.append_nil, DataW.weightsEach, List.mem_append]
      first | exact Or.inl hz | exact Or.inr (Or.inl hz) | exact Or.inr (Or.inr (Or.inl hz)) | exact Or.inr (Or.inr (Or.inr (Or.inl hz))) | exact Or.inr (Or.inr (Or.inr (Or.inr (Or.inl hz)))) | exact Or.inr (Or.inr (Or.inr (Or.inr (Or.inr (Or.inl hz))))) | exact Or.inr (Or.inr (Or.inr (Or.inr (Or.inr (Or.inr (Or.inl hz)))))) | simp [hz]
  have k0 := h0
  have lt0 : ∀ x ∈ p0, x.block < W.heap.size := by obtain ⟨m, hm⟩ := k0; exact DataW.trod_lt m _ _ _ hm
  obtain ⟨a0, rfl, _, _, w0⟩ := open_int Try.underlying3 (hval 0 3 v0 rfl rfl) h0
  have k1 := h1
  have lt1 : ∀ x ∈ p1, x.block < W.heap.size := by obtain ⟨m, hm⟩ := k1; exact DataW.trod_lt m _ _ _ hm
  obtain ⟨l1, g1, y1, z1⟩ := So.open_cps (okWide_slice Try.underlying22 (hval 1 22 v1 rfl rfl)) h1 (fun z hz => (hwl z).2.1 hz)
  have k2 := h2
  have lt2 : ∀ x ∈ p2, x.block < W.heap.size := by obtain ⟨m, hm⟩ := k2; exact DataW.trod_lt m _ _ _ hm
  obtain ⟨l2, g2, z2⟩ := So.open_ens (okWide_slice Try.underlying23 (hval 2 23 v2 rfl rfl)) h2 (fun z hz => (hwl z).2.2.1 hz)
  have k3 := h3
  have lt3 : ∀ x ∈ p3, x.block < W.heap.size := by obtain ⟨m, hm⟩ := k3; exact DataW.trod_lt m _ _ _ hm
  obtain ⟨a3, rfl, _, _, w3⟩ := open_int Try.underlying2 (hval 3 2 v3 rfl rfl) h3
  clear hA0 hval0
  refine (walk W a0 (i64_wf w0) v1 l1 g1 y1 z1 v2 l2 g2 z2 a3 (i64_wf w3)).mono fun e W' ⟨he, bel⟩ => ?_
  subst he
  exact ⟨_, rfl, _, _, _, [], _, [], hW', (trodAll_cons_mk (shut_bool Try.underlying4 _) trodAll_mk0), (trodAll_cons_mk (Below.trod laidOut (by kernel_rfl) (of_decide_eq_true (by kernel_rfl)) k0 bel lt0) (trodAll_cons_mk (Below.trod laidOut (by kernel_rfl) (of_decide_eq_true (by kernel_rfl)) k1 bel lt1) (trodAll_cons_mk (Below.trod laidOut (by kernel_rfl) (of_decide_eq_true (by kernel_rfl)) k2 bel lt2) (trodAll_cons_mk (Below.trod laidOut (by kernel_rfl) (of_decide_eq_true (by kernel_rfl)) k3 bel lt3) trodAll_mk0)))), rfl, bel.frame _, fun h => by cases h⟩

theorem over : Rows.remitBalancesRow.holds Try.pinned (OpenSpec.ofChange Rows.remitBalancesSpec) :=
  OpenClaim.holds_of_wide 5 Try.f5 rfl rfl rfl rfl rfl rfl rfl ⟨rfl, rfl, rfl, rfl, rfl⟩ rfl rfl rfl rfl rfl (by kernel_rfl) Try.func5 (by kernel_rfl)
    (of_decide_eq_true (by kernel_rfl)) (by unfold Func.isWrapper; first | (rw [if_pos (by decide +kernel)]; kernel_rfl) | (rw [if_neg (by decide +kernel)]; exact ⟨rfl, rfl⟩))
    (fun os started H enc _ => lifted os started H enc)

/-- The statement. -/
theorem proved : Rows.RemitBalancesSaid := over
end Go.Proofs.Ytpfpjbeofogbgaa.remitBalances
namespace Go.Proofs.Ytpfpjbeofogbgaa
theorem remitBalances_holds : Rows.RemitBalancesSaid := remitBalances.proved
#print axioms remitBalances_holds
end Go.Proofs.Ytpfpjbeofogbgaa
