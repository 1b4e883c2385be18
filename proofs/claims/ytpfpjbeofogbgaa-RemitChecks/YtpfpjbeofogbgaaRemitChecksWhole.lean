/-
  The statement RemitChecks (21.3, 21.4): whether any remittance may be, and balances, is what the chapter says, and what its claims are paid together; for all remittances.
-/
import Derived.WalkKit
import Derived.ProofKit
import Derived.OpenShut
import Derived.ShutString
import Derived.Below
import Derived.Carry
import Derived.Laws.Cover2
import Derived.HandedShaped
import Derived.Test.YtpfpjbeofogbgaaRows
import Derived.Test.YtpfpjbeofogbgaaMg1
import Derived.Test.YtpfpjbeofogbgaaMg2
import Derived.Test.YtpfpjbeofogbgaaMg3
import Derived.Test.YtpfpjbeofogbgaaMg4
import Derived.Test.YtpfpjbeofogbgaaMg5
import Derived.Test.YtpfpjbeofogbgaaMg6
import Derived.Test.YtpfpjbeofogbgaaMg7
import Derived.Test.YtpfpjbeofogbgaaMg8
import Derived.Test.YtpfpjbeofogbgaaMg9
import Derived.Test.YtpfpjbeofogbgaaMg10
import Derived.Test.YtpfpjbeofogbgaaMg11
import Derived.Test.YtpfpjbeofogbgaaMg12
import Derived.Test.YtpfpjbeofogbgaaMg13
import Derived.Test.YtpfpjbeofogbgaaMg14
import Derived.Test.YtpfpjbeofogbgaaMg15
import Derived.Test.YtpfpjbeofogbgaaMg16
import Derived.Test.YtpfpjbeofogbgaaMg17
import Derived.Test.YtpfpjbeofogbgaaMg18
import Derived.Test.YtpfpjbeofogbgaaMg19
import Derived.Test.YtpfpjbeofogbgaaMg20
import Derived.Test.YtpfpjbeofogbgaaMg21
import Derived.Test.YtpfpjbeofogbgaaMg22
import Derived.Test.YtpfpjbeofogbgaaMg23
import Derived.Test.YtpfpjbeofogbgaaMg24
import Derived.Test.YtpfpjbeofogbgaaMg25
import Derived.Test.YtpfpjbeofogbgaaMg26
import Derived.Test.YtpfpjbeofogbgaaMg27
import Derived.Test.YtpfpjbeofogbgaaMg28
import Derived.Test.YtpfpjbeofogbgaaMg29
import Derived.Test.YtpfpjbeofogbgaaMg30
namespace Go.Proofs.Ytpfpjbeofogbgaa.remitChecks
open Go.ChangeShapes Go.WideShapes Go.ChangeAt Go.RowKit
open Sv (Ca Sr Cp SvsAt CasAt CpsAt CpCells cpv cpe cp0 four six CpOk checkE Bd Sm I64)
open Re
open Bk (keepB below_alloc below_trans alloc_new)
open Go.ChangeMaps (open_string)
set_option linter.unusedVariables false
set_option linter.unusedSimpArgs false
set_option maxRecDepth 100000

theorem own : ownKnob Try.prog.godebug = none := by kernel_rfl

/-! ### the walk: the law returns true -/
set_option maxHeartbeats 16000000 in
theorem walk (w : World) (x0 : Rm) (m0 : Value) (h0 : CpsAt All w m0 x0.cs) (z0 : So.OpR x0) :
    Calls Try.prog 4 #[rmv x0 m0] w fun e w' => e = .returned (.bool true) ∧ Below w.heap.size w w' := by
  have HW := Lib.hid works_any
  obtain ⟨a, cap, rfl, f1, f2⟩ := h0.form
  obtain ⟨z1, z2, z3, z4, z5⟩ := z0
  have HB := Lib.hid (below_alloc w (.cells (rme x0 (.slice a x0.cs.length cap)) 27))
  have HX := Lib.hid (alloc_new w (rme x0 (.slice a x0.cs.length cap)) 27)
  have HM : Hid (∀ w', Below w.heap.size w w' → CpsAt All w' (.slice a x0.cs.length cap) x0.cs) := fun w' hb => h0.grw hb
  have HWT := Lib.hid fun w' (hb : Below w.heap.size w w') => weightL_any 600 (by decide) (by decide) _ x0.cs w' (h0.grw hb) (fun x hx => (z5 x hx).2)
  have HZ : Hid (∀ x ∈ x0.cs, CpOk x) := fun x hx => (z5 x hx).1
  have HI : Hid (Sv.I64 x0.paid ∧ Sv.I64 x0.held) := ⟨z2, z3⟩
  have HBG := Lib.hid big_any
  clear h0 z1 z2 z3 z5
  go_enter Try.func4, Try.ntmps4
  go_upto_region 1 with fail
  generalize w.alloc (.cells (rme x0 (.slice a x0.cs.length cap)) 27) = W at *
  generalize hp : w.heap.size = p at *
  have HPW : Hid (p ≤ W.heap.size) := by have := HB.out.size; rw [hp] at this; exact this
  obtain ⟨y0, y1, y2, y3⟩ := four HX.out
  go_wp2_with fail
  try (go_at_call 15)
  refine (HWT.out W HB.out).mono ?_
  rintro e w1 ⟨⟨n, rfl, hn⟩, hb⟩
  have HB1 := Lib.hid hb
  have HN := Lib.hid hn
  clear hb hn HWT y0 y1 y2 y3
  by_cases h600 : 600 < n
  · have HBc : Hid (Below p w w1) := HB.out.trans (HB1.out.mono HPW.out)
    have HBs : Hid (p ≤ w1.heap.size) := HBc.out.size |> fun h => by first | exact h | (rw [hp] at h; exact h)
    go_wp2_with (first | (go_at_call 10; refine (HW.out _).mono ?_; rintro e w9 ⟨rfl, hb9⟩; have HB9 : Hid (Below p w w9) := HBc.out.trans (hb9.mono HBs.out); clear hb9))
    go_ret
    exact ⟨rfl, by first | exact HB9.out | (rw [hp]; exact HB9.out)⟩
  have HL : Hid (x0.cs.length ≤ 600) := by have := HN.out (by omega); show _ ≤ _; omega
  clear HN
  obtain ⟨y0, y1, y2, y3⟩ := four (keepB HX.out HB1.out)
  go_wp2
  clear y0 y1 y2 y3
  go_loopg [3] (x0.cs.length) (fun gg t3 wr => ∃ (k : Nat), k ≤ x0.cs.length ∧ gg = x0.cs.length - k ∧ t3 = .int .i64 k ∧ Hid (∀ x ∈ x0.cs.take k, Bd x.paid) ∧ Hid (Below W.heap.size W wr))
  case atStart => exact ⟨0, Nat.zero_le _, rfl, rfl, by simp [Hid], HB1.out⟩
  case round =>
    obtain ⟨k, hk, hg, rfl, HA, HBn⟩ := hrel
    have HBc : Hid (Below p w wr) := HB.out.trans (HBn.out.mono HPW.out)
    have HBs : Hid (p ≤ wr.heap.size) := Nat.le_trans HPW.out HBn.out.size
    obtain ⟨y0, y1, y2, y3⟩ := four (keepB HX.out HBn.out)
    by_cases hlt : k < x0.cs.length
    · have hltz : (k : Int) < (x0.cs.length : Int) := by omega
      obtain ⟨b, o, m, rfl, hbl, hx, hcell, hr⟩ := Sv.CpsAt.get (HM.out _ HBc.out) k hlt
      have HSN := Lib.hid fun h => take_snoc (p := fun x : Cp => Bd x.paid) hx HA.out h
      have hi1 : k < x0.cs.length := hlt
      generalize x0.cs[k] = x at *
      obtain ⟨c0, c1, c2, c3, c4, c5⟩ := hcell
      clear hx hr
      cases hB : bigB x.paid
      · have HSN2 := Lib.hid (HSN.out (big_no hB))
        go_wp2_with (first | (go_at_call 16; refine (HBG.out _ _).mono ?_; rintro e w9 ⟨rfl, hw⟩; rw [hw, hB]; clear hw w9))
        go_roundg (x0.cs.length - (k + 1))
        case measure => omega
        case rel => exact ⟨k + 1, by omega, rfl, by go_num, HSN2.out, HBn.out⟩
      · go_wp2_with (first | (go_at_call 16; refine (HBG.out _ _).mono ?_; rintro e w9 ⟨rfl, hw⟩; rw [hw, hB]; clear hw w9) | (go_at_call 10; refine (HW.out _).mono ?_; rintro e w9 ⟨rfl, hb9⟩; have HB9 : Hid (Below p w w9) := HBc.out.trans (hb9.mono HBs.out); clear hb9))
        go_ret
        exact ⟨rfl, by first | exact HB9.out | (rw [hp]; exact HB9.out)⟩
    · have hltz : ¬ (k : Int) < (x0.cs.length : Int) := by omega
      have HBD := Lib.hid (take_full (p := fun x : Cp => Bd x.paid) (by omega) HA.out)
      obtain ⟨wo, rfl⟩ : ∃ z, z = wr := ⟨_, rfl⟩
      have HFB : Hid (∀ W', Below wo.heap.size wo W' → Below p w W') := fun W' hW => HBc.out.trans (hW.mono HBs.out)
      have HXK : Hid (∀ W', Below wo.heap.size wo W' → W'.heap[p]? = some (.cells (rme x0 (.slice a x0.cs.length cap)) 27 (0, 0))) := fun W' hW => keepB (keepB HX.out HBn.out) hW
      have hl2 : x0.cs.length ≤ 2000 := by have := HL.out; omega
      have HC1 : Hid (∀ W', Below wo.heap.size wo W' → Calls Try.prog 17 #[rmv x0 (.slice a x0.cs.length cap)] W' fun e w' => e = .returned (.int .i64 (chkE x0)) ∧ Below W'.heap.size W' w') := fun W' hW => check_any x0 _ W' (HM.out W' (HFB.out W' hW)) hl2 HBD.out HZ.out HI.out.2 HI.out.1
      have HC2 : Hid (∀ W', Below wo.heap.size wo W' → Calls Try.prog 18 #[rmv x0 (.slice a x0.cs.length cap)] W' fun e w' => e = .returned (.int .i64 (chkE x0)) ∧ Below W'.heap.size W' w') := fun W' hW => rcheck_any x0 _ W' (HM.out W' (HFB.out W' hW)) hl2 HBD.out HZ.out HI.out.2 HI.out.1
      have HS1 : Hid (∀ W', Below wo.heap.size wo W' → Calls Try.prog 19 #[rmv x0 (.slice a x0.cs.length cap)] W' fun e w' => e = .returned (.int .i64 (sum x0.cs)) ∧ Below W'.heap.size W' w') := fun W' hW => sum_any x0 _ W' (HM.out W' (HFB.out W' hW)) hl2 HBD.out
      have HS2 : Hid (∀ W', Below wo.heap.size wo W' → Calls Try.prog 20 #[rmv x0 (.slice a x0.cs.length cap)] W' fun e w' => e = .returned (.int .i64 (sum x0.cs)) ∧ Below W'.heap.size W' w') := fun W' hW => rsum_any x0 _ W' (HM.out W' (HFB.out W' hW)) hl2 HBD.out
      have HD := Lib.hid (Below.drew (Below.refl wo.heap.size wo))
      clear HM HZ HI HBD HL
      generalize chkE x0 = CE at *
      generalize sum x0.cs = SU at *
      go_upto_region 8 with fail
      clear y0 y1 y2 y3
      refine Ri.wp_region_lasting_g (by kernel_rfl) (by kernel_rfl) (by kernel_rfl) (fun Wx => Below wo.heap.size wo Wx) (fun kz vs wz => (fun kx vx wx => match kx with | 0 => vx = rmv x0 (.slice a x0.cs.length cap) | 1 => vx = .int .i64 CE | 2 => vx = rmv x0 (.slice a x0.cs.length cap) | 3 => vx = .int .i64 CE | 4 => vx = .bool true | 5 => vx = .bool true | 6 => vx = rmv x0 (.slice a x0.cs.length cap) | 7 => vx = .int .i64 SU | 8 => vx = rmv x0 (.slice a x0.cs.length cap) | 9 => vx = .int .i64 SU | 10 => vx = .bool true | 11 => vx = .bool true | 12 => vx = .bool true | 13 => vx = .bool true | 14 => vx = .bool true | 15 => vx = .bool true | _ => True : Nat → Value → World → Prop) kz (vs kz) wz) (fun kz => [kz]) (by kernel_rfl) (fun jz vs iz vz wz hiz hz => Ri.loc_own (F := (fun kx vx wx => match kx with | 0 => vx = rmv x0 (.slice a x0.cs.length cap) | 1 => vx = .int .i64 CE | 2 => vx = rmv x0 (.slice a x0.cs.length cap) | 3 => vx = .int .i64 CE | 4 => vx = .bool true | 5 => vx = .bool true | 6 => vx = rmv x0 (.slice a x0.cs.length cap) | 7 => vx = .int .i64 SU | 8 => vx = rmv x0 (.slice a x0.cs.length cap) | 9 => vx = .int .i64 SU | 10 => vx = .bool true | 11 => vx = .bool true | 12 => vx = .bool true | 13 => vx = .bool true | 14 => vx = .bool true | 15 => vx = .bool true | _ => True : Nat → Value → World → Prop)) jz vs iz vz wz hiz hz) HD.out ⟨Or.inl ⟨rfl, ?_⟩, Or.inl ⟨rfl, ?_⟩, Or.inl ⟨rfl, ?_⟩, Or.inl ⟨rfl, ?_⟩, Or.inl ⟨rfl, ?_⟩, Or.inl ⟨rfl, ?_⟩, Or.inr ⟨5, true, 29, rfl, rfl, ?_⟩, Or.inr ⟨5, true, 29, rfl, rfl, ?_⟩, Or.inr ⟨5, true, 29, rfl, rfl, ?_⟩, Or.inr ⟨5, true, 29, rfl, rfl, ?_⟩, Or.inr ⟨5, true, 29, rfl, rfl, ?_⟩, Or.inl ⟨rfl, ?_⟩, Or.inl ⟨rfl, ?_⟩, Or.inr ⟨12, true, 36, rfl, rfl, ?_⟩, Or.inl ⟨rfl, ?_⟩, Or.inl ⟨rfl, ?_⟩, trivial⟩ ?_
      · intro vs Wx A hA hB hpre K hK
        have e1 := (hA 1).trans (show _ = Value.pointer (some ⟨p, 0, none⟩) by kernel_rfl)
        obtain ⟨y0, y1, y2, y3⟩ := four (HXK.out Wx hB)
        clear hA hpre
        go_simp
        first | exact hK _ _ hB rfl (fun _ _ h => h) | exact hK _ _ hB trivial (fun _ _ h => h) | (rw [if_neg (by omega)]; go_simp; exact hK _ _ hB rfl (fun _ _ h => h))
      · intro vs Wx A hA hB hpre K hK
        have e24 := ((hA 24).trans (show _ = vs 0 by kernel_rfl)).trans (by first | exact hpre.1 rfl | exact hpre.2.1 rfl | exact hpre.2.2.1 rfl | exact hpre.2.2.2.1 rfl | exact hpre.2.2.2.2.1 rfl | exact hpre.2.2.2.2.2.1 rfl | exact hpre.2.2.2.2.2.2.1 rfl | exact hpre.2.2.2.2.2.2.2.1 rfl | exact hpre.2.2.2.2.2.2.2.2.1 rfl | exact hpre.2.2.2.2.2.2.2.2.2.1 rfl)
        clear hA hpre
        go_simp
        go_at_call 17
        refine (HC1.out Wx hB).mono ?_
        rintro e w4 ⟨rfl, hg⟩
        exact hK _ _ (below_trans hB hg) rfl (fun _ _ h => h)
      · intro vs Wx A hA hB hpre K hK
        have e1 := (hA 1).trans (show _ = Value.pointer (some ⟨p, 0, none⟩) by kernel_rfl)
        obtain ⟨y0, y1, y2, y3⟩ := four (HXK.out Wx hB)
        clear hA hpre
        go_simp
        first | exact hK _ _ hB rfl (fun _ _ h => h) | exact hK _ _ hB trivial (fun _ _ h => h) | (rw [if_neg (by omega)]; go_simp; exact hK _ _ hB rfl (fun _ _ h => h))
      · intro vs Wx A hA hB hpre K hK
        have e26 := ((hA 26).trans (show _ = vs 2 by kernel_rfl)).trans (by first | exact hpre.1 rfl | exact hpre.2.1 rfl | exact hpre.2.2.1 rfl | exact hpre.2.2.2.1 rfl | exact hpre.2.2.2.2.1 rfl | exact hpre.2.2.2.2.2.1 rfl | exact hpre.2.2.2.2.2.2.1 rfl | exact hpre.2.2.2.2.2.2.2.1 rfl | exact hpre.2.2.2.2.2.2.2.2.1 rfl | exact hpre.2.2.2.2.2.2.2.2.2.1 rfl)
        clear hA hpre
        go_simp
        go_at_call 18
        refine (HC2.out Wx hB).mono ?_
        rintro e w4 ⟨rfl, hg⟩
        exact hK _ _ (below_trans hB hg) rfl (fun _ _ h => h)
      · intro vs Wx A hA hB hpre K hK
        have e25 := ((hA 25).trans (show _ = vs 1 by kernel_rfl)).trans (by first | exact hpre.1 rfl | exact hpre.2.1 rfl | exact hpre.2.2.1 rfl | exact hpre.2.2.2.1 rfl | exact hpre.2.2.2.2.1 rfl | exact hpre.2.2.2.2.2.1 rfl | exact hpre.2.2.2.2.2.2.1 rfl | exact hpre.2.2.2.2.2.2.2.1 rfl | exact hpre.2.2.2.2.2.2.2.2.1 rfl | exact hpre.2.2.2.2.2.2.2.2.2.1 rfl)
        have e27 := ((hA 27).trans (show _ = vs 3 by kernel_rfl)).trans (by first | exact hpre.1 rfl | exact hpre.2.1 rfl | exact hpre.2.2.1 rfl | exact hpre.2.2.2.1 rfl | exact hpre.2.2.2.2.1 rfl | exact hpre.2.2.2.2.2.1 rfl | exact hpre.2.2.2.2.2.2.1 rfl | exact hpre.2.2.2.2.2.2.2.1 rfl | exact hpre.2.2.2.2.2.2.2.2.1 rfl | exact hpre.2.2.2.2.2.2.2.2.2.1 rfl)
        clear hA hpre
        go_simp
        first | exact hK _ _ hB rfl (fun _ _ h => h) | exact hK _ _ hB trivial (fun _ _ h => h) | (rw [if_neg (by omega)]; go_simp; exact hK _ _ hB rfl (fun _ _ h => h))
      · intro vs Wx A hA hB hpre K hK
        have e28 := ((hA 28).trans (show _ = vs 4 by kernel_rfl)).trans (by first | exact hpre.1 rfl | exact hpre.2.1 rfl | exact hpre.2.2.1 rfl | exact hpre.2.2.2.1 rfl | exact hpre.2.2.2.2.1 rfl | exact hpre.2.2.2.2.2.1 rfl | exact hpre.2.2.2.2.2.2.1 rfl | exact hpre.2.2.2.2.2.2.2.1 rfl | exact hpre.2.2.2.2.2.2.2.2.1 rfl | exact hpre.2.2.2.2.2.2.2.2.2.1 rfl)
        clear hA hpre
        go_simp
        first | exact hK _ _ hB rfl (fun _ _ h => h) | exact hK _ _ hB trivial (fun _ _ h => h) | (rw [if_neg (by omega)]; go_simp; exact hK _ _ hB rfl (fun _ _ h => h))
      · intro vs Wx A hA hB hpre
        have eg := ((hA 29).trans (show _ = vs 5 by kernel_rfl)).trans (by first | exact hpre.1 rfl | exact hpre.2.1 rfl | exact hpre.2.2.1 rfl | exact hpre.2.2.2.1 rfl | exact hpre.2.2.2.2.1 rfl | exact hpre.2.2.2.2.2.1 rfl | exact hpre.2.2.2.2.2.2.1 rfl | exact hpre.2.2.2.2.2.2.2.1 rfl | exact hpre.2.2.2.2.2.2.2.2.1 rfl | exact hpre.2.2.2.2.2.2.2.2.2.1 rfl)
        refine ⟨true, eg, fun _ K hK => ?_, fun h => absurd rfl h⟩
        have e1 := (hA 1).trans (show _ = Value.pointer (some ⟨p, 0, none⟩) by kernel_rfl)
        obtain ⟨y0, y1, y2, y3⟩ := four (HXK.out Wx hB)
        clear hA hpre
        go_simp
        first | exact hK _ _ hB rfl (fun _ _ h => h) | exact hK _ _ hB trivial (fun _ _ h => h) | (rw [if_neg (by omega)]; go_simp; exact hK _ _ hB rfl (fun _ _ h => h))
      · intro vs Wx A hA hB hpre
        have eg := ((hA 29).trans (show _ = vs 5 by kernel_rfl)).trans (by first | exact hpre.1 rfl | exact hpre.2.1 rfl | exact hpre.2.2.1 rfl | exact hpre.2.2.2.1 rfl | exact hpre.2.2.2.2.1 rfl | exact hpre.2.2.2.2.2.1 rfl | exact hpre.2.2.2.2.2.2.1 rfl | exact hpre.2.2.2.2.2.2.2.1 rfl | exact hpre.2.2.2.2.2.2.2.2.1 rfl | exact hpre.2.2.2.2.2.2.2.2.2.1 rfl)
        refine ⟨true, eg, fun _ K hK => ?_, fun h => absurd rfl h⟩
        have e30 := ((hA 30).trans (show _ = vs 6 by kernel_rfl)).trans (by first | exact hpre.1 rfl | exact hpre.2.1 rfl | exact hpre.2.2.1 rfl | exact hpre.2.2.2.1 rfl | exact hpre.2.2.2.2.1 rfl | exact hpre.2.2.2.2.2.1 rfl | exact hpre.2.2.2.2.2.2.1 rfl | exact hpre.2.2.2.2.2.2.2.1 rfl | exact hpre.2.2.2.2.2.2.2.2.1 rfl | exact hpre.2.2.2.2.2.2.2.2.2.1 rfl)
        clear hA hpre
        go_simp
        go_at_call 19
        refine (HS1.out Wx hB).mono ?_
        rintro e w4 ⟨rfl, hg⟩
        exact hK _ _ (below_trans hB hg) rfl (fun _ _ h => h)
      · intro vs Wx A hA hB hpre
        have eg := ((hA 29).trans (show _ = vs 5 by kernel_rfl)).trans (by first | exact hpre.1 rfl | exact hpre.2.1 rfl | exact hpre.2.2.1 rfl | exact hpre.2.2.2.1 rfl | exact hpre.2.2.2.2.1 rfl | exact hpre.2.2.2.2.2.1 rfl | exact hpre.2.2.2.2.2.2.1 rfl | exact hpre.2.2.2.2.2.2.2.1 rfl | exact hpre.2.2.2.2.2.2.2.2.1 rfl | exact hpre.2.2.2.2.2.2.2.2.2.1 rfl)
        refine ⟨true, eg, fun _ K hK => ?_, fun h => absurd rfl h⟩
        have e1 := (hA 1).trans (show _ = Value.pointer (some ⟨p, 0, none⟩) by kernel_rfl)
        obtain ⟨y0, y1, y2, y3⟩ := four (HXK.out Wx hB)
        clear hA hpre
        go_simp
        first | exact hK _ _ hB rfl (fun _ _ h => h) | exact hK _ _ hB trivial (fun _ _ h => h) | (rw [if_neg (by omega)]; go_simp; exact hK _ _ hB rfl (fun _ _ h => h))
      · intro vs Wx A hA hB hpre
        have eg := ((hA 29).trans (show _ = vs 5 by kernel_rfl)).trans (by first | exact hpre.1 rfl | exact hpre.2.1 rfl | exact hpre.2.2.1 rfl | exact hpre.2.2.2.1 rfl | exact hpre.2.2.2.2.1 rfl | exact hpre.2.2.2.2.2.1 rfl | exact hpre.2.2.2.2.2.2.1 rfl | exact hpre.2.2.2.2.2.2.2.1 rfl | exact hpre.2.2.2.2.2.2.2.2.1 rfl | exact hpre.2.2.2.2.2.2.2.2.2.1 rfl)
        refine ⟨true, eg, fun _ K hK => ?_, fun h => absurd rfl h⟩
        have e32 := ((hA 32).trans (show _ = vs 8 by kernel_rfl)).trans (by first | exact hpre.1 rfl | exact hpre.2.1 rfl | exact hpre.2.2.1 rfl | exact hpre.2.2.2.1 rfl | exact hpre.2.2.2.2.1 rfl | exact hpre.2.2.2.2.2.1 rfl | exact hpre.2.2.2.2.2.2.1 rfl | exact hpre.2.2.2.2.2.2.2.1 rfl | exact hpre.2.2.2.2.2.2.2.2.1 rfl | exact hpre.2.2.2.2.2.2.2.2.2.1 rfl)
        clear hA hpre
        go_simp
        go_at_call 20
        refine (HS2.out Wx hB).mono ?_
        rintro e w4 ⟨rfl, hg⟩
        exact hK _ _ (below_trans hB hg) rfl (fun _ _ h => h)
      · intro vs Wx A hA hB hpre
        have eg := ((hA 29).trans (show _ = vs 5 by kernel_rfl)).trans (by first | exact hpre.1 rfl | exact hpre.2.1 rfl | exact hpre.2.2.1 rfl | exact hpre.2.2.2.1 rfl | exact hpre.2.2.2.2.1 rfl | exact hpre.2.2.2.2.2.1 rfl | exact hpre.2.2.2.2.2.2.1 rfl | exact hpre.2.2.2.2.2.2.2.1 rfl | exact hpre.2.2.2.2.2.2.2.2.1 rfl | exact hpre.2.2.2.2.2.2.2.2.2.1 rfl)
        refine ⟨true, eg, fun _ K hK => ?_, fun h => absurd rfl h⟩
        have e31 := ((hA 31).trans (show _ = vs 7 by kernel_rfl)).trans (by first | exact hpre.1 rfl | exact hpre.2.1 rfl | exact hpre.2.2.1 rfl | exact hpre.2.2.2.1 rfl | exact hpre.2.2.2.2.1 rfl | exact hpre.2.2.2.2.2.1 rfl | exact hpre.2.2.2.2.2.2.1 rfl | exact hpre.2.2.2.2.2.2.2.1 rfl | exact hpre.2.2.2.2.2.2.2.2.1 rfl | exact hpre.2.2.2.2.2.2.2.2.2.1 rfl)
        have e33 := ((hA 33).trans (show _ = vs 9 by kernel_rfl)).trans (by first | exact hpre.1 rfl | exact hpre.2.1 rfl | exact hpre.2.2.1 rfl | exact hpre.2.2.2.1 rfl | exact hpre.2.2.2.2.1 rfl | exact hpre.2.2.2.2.2.1 rfl | exact hpre.2.2.2.2.2.2.1 rfl | exact hpre.2.2.2.2.2.2.2.1 rfl | exact hpre.2.2.2.2.2.2.2.2.1 rfl | exact hpre.2.2.2.2.2.2.2.2.2.1 rfl)
        clear hA hpre
        go_simp
        first | exact hK _ _ hB rfl (fun _ _ h => h) | exact hK _ _ hB trivial (fun _ _ h => h) | (rw [if_neg (by omega)]; go_simp; exact hK _ _ hB rfl (fun _ _ h => h))
      · intro vs Wx A hA hB hpre K hK
        have e29 := ((hA 29).trans (show _ = vs 5 by kernel_rfl)).trans (by first | exact hpre.1 rfl | exact hpre.2.1 rfl | exact hpre.2.2.1 rfl | exact hpre.2.2.2.1 rfl | exact hpre.2.2.2.2.1 rfl | exact hpre.2.2.2.2.2.1 rfl | exact hpre.2.2.2.2.2.2.1 rfl | exact hpre.2.2.2.2.2.2.2.1 rfl | exact hpre.2.2.2.2.2.2.2.2.1 rfl | exact hpre.2.2.2.2.2.2.2.2.2.1 rfl)
        have e34 := ((hA 34).trans (show _ = vs 10 by kernel_rfl)).trans (by first | exact hpre.1 rfl | exact hpre.2.1 rfl | exact hpre.2.2.1 rfl | exact hpre.2.2.2.1 rfl | exact hpre.2.2.2.2.1 rfl | exact hpre.2.2.2.2.2.1 rfl | exact hpre.2.2.2.2.2.2.1 rfl | exact hpre.2.2.2.2.2.2.2.1 rfl | exact hpre.2.2.2.2.2.2.2.2.1 rfl | exact hpre.2.2.2.2.2.2.2.2.2.1 rfl)
        clear hA hpre
        go_simp
        first | exact hK _ _ hB rfl (fun _ _ h => h) | exact hK _ _ hB trivial (fun _ _ h => h) | (rw [if_neg (by omega)]; go_simp; exact hK _ _ hB rfl (fun _ _ h => h))
      · intro vs Wx A hA hB hpre K hK
        have e35 := ((hA 35).trans (show _ = vs 11 by kernel_rfl)).trans (by first | exact hpre.1 rfl | exact hpre.2.1 rfl | exact hpre.2.2.1 rfl | exact hpre.2.2.2.1 rfl | exact hpre.2.2.2.2.1 rfl | exact hpre.2.2.2.2.2.1 rfl | exact hpre.2.2.2.2.2.2.1 rfl | exact hpre.2.2.2.2.2.2.2.1 rfl | exact hpre.2.2.2.2.2.2.2.2.1 rfl | exact hpre.2.2.2.2.2.2.2.2.2.1 rfl)
        clear hA hpre
        go_simp
        first | exact hK _ _ hB rfl (fun _ _ h => h) | exact hK _ _ hB trivial (fun _ _ h => h) | (rw [if_neg (by omega)]; go_simp; exact hK _ _ hB rfl (fun _ _ h => h))
      · intro vs Wx A hA hB hpre
        have eg := ((hA 36).trans (show _ = vs 12 by kernel_rfl)).trans (by first | exact hpre.1 rfl | exact hpre.2.1 rfl | exact hpre.2.2.1 rfl | exact hpre.2.2.2.1 rfl | exact hpre.2.2.2.2.1 rfl | exact hpre.2.2.2.2.2.1 rfl | exact hpre.2.2.2.2.2.2.1 rfl | exact hpre.2.2.2.2.2.2.2.1 rfl | exact hpre.2.2.2.2.2.2.2.2.1 rfl | exact hpre.2.2.2.2.2.2.2.2.2.1 rfl)
        refine ⟨true, eg, fun _ K hK => ?_, fun h => absurd rfl h⟩
        clear hA hpre
        go_simp
        go_at_call 10
        refine (HW.out Wx).mono ?_
        rintro e w4 ⟨rfl, hg⟩
        exact hK _ _ (below_trans hB hg) rfl (fun _ _ h => h)
      · intro vs Wx A hA hB hpre K hK
        have e36 := ((hA 36).trans (show _ = vs 12 by kernel_rfl)).trans (by first | exact hpre.1 rfl | exact hpre.2.1 rfl | exact hpre.2.2.1 rfl | exact hpre.2.2.2.1 rfl | exact hpre.2.2.2.2.1 rfl | exact hpre.2.2.2.2.2.1 rfl | exact hpre.2.2.2.2.2.2.1 rfl | exact hpre.2.2.2.2.2.2.2.1 rfl | exact hpre.2.2.2.2.2.2.2.2.1 rfl | exact hpre.2.2.2.2.2.2.2.2.2.1 rfl)
        have e37 := ((hA 37).trans (show _ = vs 13 by kernel_rfl)).trans (by first | exact hpre.1 rfl | exact hpre.2.1 rfl | exact hpre.2.2.1 rfl | exact hpre.2.2.2.1 rfl | exact hpre.2.2.2.2.1 rfl | exact hpre.2.2.2.2.2.1 rfl | exact hpre.2.2.2.2.2.2.1 rfl | exact hpre.2.2.2.2.2.2.2.1 rfl | exact hpre.2.2.2.2.2.2.2.2.1 rfl | exact hpre.2.2.2.2.2.2.2.2.2.1 rfl)
        clear hA hpre
        go_simp
        first | exact hK _ _ hB rfl (fun _ _ h => h) | exact hK _ _ hB trivial (fun _ _ h => h) | (rw [if_neg (by omega)]; go_simp; exact hK _ _ hB rfl (fun _ _ h => h))
      · intro vs Wx A hA hB hpre K hK
        have e38 := ((hA 38).trans (show _ = vs 14 by kernel_rfl)).trans (by first | exact hpre.1 rfl | exact hpre.2.1 rfl | exact hpre.2.2.1 rfl | exact hpre.2.2.2.1 rfl | exact hpre.2.2.2.2.1 rfl | exact hpre.2.2.2.2.2.1 rfl | exact hpre.2.2.2.2.2.2.1 rfl | exact hpre.2.2.2.2.2.2.2.1 rfl | exact hpre.2.2.2.2.2.2.2.2.1 rfl | exact hpre.2.2.2.2.2.2.2.2.2.1 rfl)
        clear hA hpre
        go_simp
        first | exact hK _ _ hB rfl (fun _ _ h => h) | exact hK _ _ hB trivial (fun _ _ h => h) | (rw [if_neg (by omega)]; go_simp; exact hK _ _ hB rfl (fun _ _ h => h))
      intro vs Wx hB hF
      have h15 : vs 15 = .bool true := hF 15 (by decide)
      have HB6 := Lib.hid (HFB.out Wx hB)
      clear hF hB
      simp only [Ri.puts]
      rw [h15]
      clear h15
      go_simp
      go_wp2
      go_ret
      exact ⟨rfl, by first | exact HB6.out | (rw [hp]; exact HB6.out)⟩

/-! ### the row's step -/
theorem laidOut : laidOutB Try.prog = true := by kernel_rfl
theorem lifted (os : Os) (started : os.Started) (H : Type) (enc : TypeId × Value → H) :
    ReturnsInHanded {} Try.checked os 4 .any (Rows.remitChecksSpec.pre6 enc Try.prog Try.f4 Rows.remitChecksRow.domain false) (Rows.remitChecksSpec.post enc Try.prog Try.f4 false true false false) := by
  refine returnsInHanded_of_change_shaped (C := Try.checked) own started (by kernel_rfl) Try.func4
    (ChangeSpec.witness6 (enc := enc) (C := Try.checked) false ⟨#[], #[.agg #[.int .i64 0, .int .i64 0, .int .i64 0, .slice none 0 0]], []⟩ 8 (by kernel_rfl) (by kernel_rfl) (by kernel_rfl) (by kernel_rfl)) ?_
  intro W base args ds gs before hval0 hW hcnd hwt _ _
  have hval : ∀ (j : Nat) t v, Try.f4.params[j]? = some t → args[j]? = some v → Value.okWide Try.prog W .any base t v := hval0
  have hW' := hW
  obtain ⟨p, q, hA0, hV, rfl, hfz, hnd⟩ := hW
  have hA : DataW.TrodAll enc Try.prog W 0 (fun _ => true) true Try.f4.params.toList args.toList ds p := hA0
  rw [Try.params4] at hA hval hwt
  obtain ⟨v0, vs0, d0, ds0, p0, q0, hargs, rfl, rfl, h0, r0⟩ := trodAll_cons hA
  obtain ⟨rfl, rfl, rfl⟩ := trodAll_nil r0
  obtain rfl : args = #[v0] := by cases args; simp_all
  obtain ⟨rfl, rfl⟩ := trodVars_none hV
  have hwl : ∀ z, (z ∈ d0.weights Try.prog 27 → z ≤ reachBytes) := fun z => by
    have h := List.all_eq_true.1 hwt z
    simp only [decide_eq_true_eq] at h
    refine fun hz => h ?_
    all_goals
      simp only [List.cons_append, List.nil_append, List.toList_toArray, List.append_nil, DataW.weightsEach, List.mem_append]
      first | exact Or.inl hz | exact Or.inr (Or.inl hz) | exact Or.inr (Or.inr (Or.inl hz)) | exact Or.inr (Or.inr (Or.inr (Or.inl hz))) | exact Or.inr (Or.inr (Or.inr (Or.inr (Or.inl hz)))) | exact Or.inr (Or.inr (Or.inr (Or.inr (Or.inr (Or.inl hz))))) | exact Or.inr (Or.inr (Or.inr (Or.inr (Or.inr (Or.inr (Or.inl hz)))))) | simp [hz]
  have k0 := h0
  have lt0 : ∀ x ∈ p0, x.block < W.heap.size := by obtain ⟨m, hm⟩ := k0; exact DataW.trod_lt m _ _ _ hm
  obtain ⟨x0, m0, rfl, g0, z0⟩ := So.open_remit (hval 0 27 v0 rfl rfl) h0 (fun z hz => hwl z hz)
  clear hA0 hval0
  refine (walk W x0 m0 g0 z0).mono fun e W' ⟨he, bel⟩ => ?_
  subst he
  exact ⟨_, rfl, _, _, _, [], _, [], hW', (trodAll_cons_mk (shut_bool Try.underlying4 _) trodAll_mk0), (trodAll_cons_mk (Below.trod laidOut (by kernel_rfl) (of_decide_eq_true (by kernel_rfl)) k0 bel lt0) trodAll_mk0), rfl, bel.frame _, fun h => by cases h⟩

theorem over : Rows.remitChecksRow.holds Try.pinned (OpenSpec.ofChange Rows.remitChecksSpec) :=
  OpenClaim.holds_of_wide 4 Try.f4 rfl rfl rfl rfl rfl rfl rfl ⟨rfl, rfl, rfl, rfl, rfl⟩ rfl rfl rfl rfl rfl (by kernel_rfl) Try.func4 (by kernel_rfl)
    (of_decide_eq_true (by kernel_rfl)) (by unfold Func.isWrapper; first | (rw [if_pos (by decide +kernel)]; kernel_rfl) | (rw [if_neg (by decide +kernel)]; exact ⟨rfl, rfl⟩))
    (fun os started H enc _ => lifted os started H enc)

/-- The statement. -/
theorem proved : Rows.RemitChecksSaid := over
end Go.Proofs.Ytpfpjbeofogbgaa.remitChecks
namespace Go.Proofs.Ytpfpjbeofogbgaa
theorem remitChecks_holds : Rows.RemitChecksSaid := remitChecks.proved
#print axioms remitChecks_holds
end Go.Proofs.Ytpfpjbeofogbgaa
