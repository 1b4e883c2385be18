/-
  The statement SvcChecks (20.4, 20.5): whether any claim of a remittance may be, and balances, and whether two are the same, is what the chapter says; for all claims of remittances.
-/
import Derived.Test.YtpnkgkchpoehcaaRows
import Derived.WalkKit
import Derived.ProofKit
import Derived.OpenShut
import Derived.ShutString
import Derived.Below
import Derived.Carry
import Derived.Laws.Cover2
import Derived.HandedShaped
import Derived.Test.YtpnkgkchpoehcaaVSum
import Derived.Test.YtpnkgkchpoehcaaRInv
import Derived.Test.YtpnkgkchpoehcaaRInvB
import Derived.Test.YtpnkgkchpoehcaaVOpen
namespace Go.Proofs.Ytpnkgkchpoehcaa.svcChecks
open Go.ChangeShapes Go.WideShapes Go.ChangeAt Go.RowKit
open Sv
open Bk (keepB below_alloc below_trans alloc_new)
open Go.ChangeMaps (open_string)
set_option linter.unusedVariables false
set_option linter.unusedSimpArgs false
set_option maxRecDepth 100000

theorem own : ownKnob Try.prog.godebug = none := by kernel_rfl

/-! ### the walk: the law returns true -/
set_option maxHeartbeats 16000000 in
theorem walk (w : World) (x0 : Cp) (m0 : Value) (h0 : SvsAt All w m0 x0.svs) (z0 : So.OpC x0) (x1 : Cp) (m1 : Value) (h1 : SvsAt All w m1 x1.svs) (z1 : So.OpC x1) :
    Calls Try.prog 4 #[cpv x0 m0, cpv x1 m1] w fun e w' => e = .returned (.bool true) ∧ Below w.heap.size w w' := by
  have HW := Lib.hid works_any
  obtain ⟨ax, cx, rfl, f1, f2⟩ := h0.form
  obtain ⟨ay, cy, rfl, f3, f4⟩ := h1.form
  have hb0 : Below w.heap.size w ((w.alloc (.cells (cpe x0 (.slice ax x0.svs.length cx)) 30)).alloc (.cells (cpe x1 (.slice ay x1.svs.length cy)) 30)) := below_trans (below_alloc w _) (below_alloc _ _)
  have HB := Lib.hid hb0
  have HX := Lib.hid (keepB (alloc_new w (cpe x0 (.slice ax x0.svs.length cx)) 30) (below_alloc _ (.cells (cpe x1 (.slice ay x1.svs.length cy)) 30)))
  have HY := Lib.hid (alloc_new (w.alloc (.cells (cpe x0 (.slice ax x0.svs.length cx)) 30)) (cpe x1 (.slice ay x1.svs.length cy)) 30)
  rw [show (w.alloc (.cells (cpe x0 (.slice ax x0.svs.length cx)) 30)).heap.size = w.heap.size + 1 by simp] at HY
  have HM : Hid (∀ W, Below w.heap.size w W → SvsAt All W (.slice ax x0.svs.length cx) x0.svs) := fun W hW => h0.grw hW
  have HN : Hid (∀ W, Below w.heap.size w W → SvsAt All W (.slice ay x1.svs.length cy) x1.svs) := fun W hW => h1.grw hW
  have HZ := Lib.hid z0
  have HZ1 := Lib.hid z1
  clear h0 h1 hb0 z0 z1
  go_enter Try.func4, Try.ntmps4
  go_upto_region 1 with fail
  generalize ((w.alloc (.cells (cpe x0 (.slice ax x0.svs.length cx)) 30)).alloc (.cells (cpe x1 (.slice ay x1.svs.length cy)) 30)) = W at *
  generalize hp : w.heap.size = p at *
  have HPW : Hid (p ≤ W.heap.size) := by have := HB.out.size; rw [hp] at this; exact this
  obtain ⟨x2, x3, x4, x5, x6, x7⟩ := six HX.out
  obtain ⟨y2, y3, y4, y5, y6, y7⟩ := six HY.out
  have HBW : Hid (Below p w (W.alloc (.cells #[.string (mk x0.id), .int .i64 x0.st, .int .i64 x0.bi, .int .i64 x0.paid, .int .i64 x0.mem, (.slice ax x0.svs.length cx), .string (mk x1.id), .int .i64 x1.st, .int .i64 x1.bi, .int .i64 x1.paid, .int .i64 x1.mem, (.slice ay x1.svs.length cy)] 30))) := HB.out.trans ((below_alloc W _).mono HPW.out)
  have HL : Hid (Calls Try.prog 13 #[.slice (some ⟨W.heap.size, 0, none⟩) 2 2] (W.alloc (.cells #[.string (mk x0.id), .int .i64 x0.st, .int .i64 x0.bi, .int .i64 x0.paid, .int .i64 x0.mem, (.slice ax x0.svs.length cx), .string (mk x1.id), .int .i64 x1.st, .int .i64 x1.bi, .int .i64 x1.paid, .int .i64 x1.mem, (.slice ay x1.svs.length cy)] 30)) fun e w' => (∃ b, e = .returned (.bool b)) ∧ Below (W.alloc (.cells #[.string (mk x0.id), .int .i64 x0.st, .int .i64 x0.bi, .int .i64 x0.paid, .int .i64 x0.mem, (.slice ax x0.svs.length cx), .string (mk x1.id), .int .i64 x1.st, .int .i64 x1.bi, .int .i64 x1.paid, .int .i64 x1.mem, (.slice ay x1.svs.length cy)] 30)).heap.size (W.alloc (.cells #[.string (mk x0.id), .int .i64 x0.st, .int .i64 x0.bi, .int .i64 x0.paid, .int .i64 x0.mem, (.slice ax x0.svs.length cx), .string (mk x1.id), .int .i64 x1.st, .int .i64 x1.bi, .int .i64 x1.paid, .int .i64 x1.mem, (.slice ay x1.svs.length cy)] 30)) w') :=
    light_any [x0, x1] _ _ (cps_two (alloc_new W _ _) (HM.out _ HBW.out) (HN.out _ HBW.out)) (fun y hy => by
      simp only [List.mem_cons, List.not_mem_nil, or_false] at hy
      rcases hy with rfl | rfl
      · exact HZ.out.2
      · exact HZ1.out.2)
  go_wp2_with fail
  try (go_at_call 13)
  refine HL.out.mono ?_
  rintro e w1 ⟨⟨b, rfl⟩, hb⟩
  have HB1 : Hid (Below W.heap.size W w1) := below_trans (below_alloc W _) hb
  have HBw1 : Hid (Below p w w1) := HB.out.trans (HB1.out.mono HPW.out)
  have HPS : Hid (p ≤ w1.heap.size) := Nat.le_trans HPW.out HB1.out.size
  clear hb HL x2 x3 x4 x5 x6 x7 y2 y3 y4 y5 y6 y7
  cases b with
  | false =>
    go_wp2_with (first | (go_at_call 9; refine (HW.out _).mono ?_; rintro e w2 ⟨rfl, hb⟩; have HB2 : Hid (Below p w w2) := HBw1.out.trans (hb.mono HPS.out); clear hb))
    go_ret
    exact ⟨rfl, by first | exact HB2.out | (rw [hp]; exact HB2.out)⟩
  | true =>
    have HXK : Hid (∀ W', Below w1.heap.size w1 W' → W'.heap[p]? = some (.cells (cpe x0 (.slice ax x0.svs.length cx)) 30 (0, 0)) ∧ W'.heap[p + 1]? = some (.cells (cpe x1 (.slice ay x1.svs.length cy)) 30 (0, 0))) := fun W' hW => ⟨keepB (keepB HX.out HB1.out) hW, keepB (keepB HY.out HB1.out) hW⟩
    have HBF : Hid (∀ W', Below w1.heap.size w1 W' → Below p w W') := fun W' hW => HBw1.out.trans (hW.mono HPS.out)
    have HC1 : Hid (∀ W', Below w1.heap.size w1 W' → Calls Try.prog 14 #[cpv x0 (.slice ax x0.svs.length cx)] W' fun e w' => e = .returned (.int .i64 (checkE x0)) ∧ Below W'.heap.size W' w') := fun W' hW => check_any x0 _ W' (HM.out _ (HBF.out _ hW)) HZ.out.1
    have HC2 : Hid (∀ W', Below w1.heap.size w1 W' → Calls Try.prog 15 #[cpv x0 (.slice ax x0.svs.length cx)] W' fun e w' => e = .returned (.int .i64 (checkE x0)) ∧ Below W'.heap.size W' w') := fun W' hW => rcheck_any x0 _ W' (HM.out _ (HBF.out _ hW)) HZ.out.1
    obtain ⟨D, hD1, hD2⟩ := sames_any x0 x1
    have HC3 : Hid (∀ W', Below w1.heap.size w1 W' → Calls Try.prog 16 #[cpv x0 (.slice ax x0.svs.length cx), cpv x1 (.slice ay x1.svs.length cy)] W' fun e w' => e = .returned (.bool D) ∧ Below W'.heap.size W' w') := fun W' hW => hD1 _ _ W' (HM.out _ (HBF.out _ hW)) (HN.out _ (HBF.out _ hW))
    have HC4 : Hid (∀ W', Below w1.heap.size w1 W' → Calls Try.prog 12 #[cpv x0 (.slice ax x0.svs.length cx), cpv x1 (.slice ay x1.svs.length cy)] W' fun e w' => e = .returned (.bool D) ∧ Below W'.heap.size W' w') := fun W' hW => hD2 _ _ W' (HM.out _ (HBF.out _ hW)) (HN.out _ (HBF.out _ hW))
    generalize checkE x0 = E at *
    clear hD1 hD2
    have HD := Lib.hid (Below.drew (Below.refl w1.heap.size w1))
    go_upto_region 3 with fail
    refine Ri.wp_region_lastingB_g (by kernel_rfl) (by kernel_rfl) (by kernel_rfl) (fun Wx => Below w1.heap.size w1 Wx) (fun kz vs wz => (fun kx vx wx => match kx with | 0 => vx = cpv x0 (.slice ax x0.svs.length cx) | 1 => vx = .int .i64 E | 2 => vx = cpv x0 (.slice ax x0.svs.length cx) | 3 => vx = .int .i64 E | 4 => vx = .bool true | 5 => vx = .bool true | 6 => vx = cpv x0 (.slice ax x0.svs.length cx) | 7 => vx = cpv x1 (.slice ay x1.svs.length cy) | 8 => vx = .bool D | 9 => vx = cpv x0 (.slice ax x0.svs.length cx) | 10 => vx = cpv x1 (.slice ay x1.svs.length cy) | 11 => vx = .bool D | 12 => vx = .bool true | 13 => vx = .bool true | 14 => vx = .bool true | 15 => vx = .bool true | 16 => vx = .bool true | 17 => vx = .bool true | _ => True : Nat → Value → World → Prop) kz (vs kz) wz) (fun kz => [kz]) (by kernel_rfl) (fun jz vs iz vz wz hiz hz => Ri.loc_own (F := (fun kx vx wx => match kx with | 0 => vx = cpv x0 (.slice ax x0.svs.length cx) | 1 => vx = .int .i64 E | 2 => vx = cpv x0 (.slice ax x0.svs.length cx) | 3 => vx = .int .i64 E | 4 => vx = .bool true | 5 => vx = .bool true | 6 => vx = cpv x0 (.slice ax x0.svs.length cx) | 7 => vx = cpv x1 (.slice ay x1.svs.length cy) | 8 => vx = .bool D | 9 => vx = cpv x0 (.slice ax x0.svs.length cx) | 10 => vx = cpv x1 (.slice ay x1.svs.length cy) | 11 => vx = .bool D | 12 => vx = .bool true | 13 => vx = .bool true | 14 => vx = .bool true | 15 => vx = .bool true | 16 => vx = .bool true | 17 => vx = .bool true | _ => True : Nat → Value → World → Prop)) jz vs iz vz wz hiz hz) HD.out ⟨Or.inl ⟨rfl, ?_⟩, Or.inl ⟨rfl, ?_⟩, Or.inl ⟨rfl, ?_⟩, Or.inl ⟨rfl, ?_⟩, Or.inl ⟨rfl, ?_⟩, Or.inl ⟨rfl, ?_⟩, Or.inr ⟨5, true, 16, rfl, rfl, ?_⟩, Or.inr ⟨5, true, 16, rfl, rfl, ?_⟩, Or.inr ⟨5, true, 16, rfl, rfl, ?_⟩, Or.inr ⟨5, true, 16, rfl, rfl, ?_⟩, Or.inr ⟨5, true, 16, rfl, rfl, ?_⟩, Or.inr ⟨5, true, 16, rfl, rfl, ?_⟩, Or.inr ⟨5, true, 16, rfl, rfl, ?_⟩, Or.inl ⟨rfl, ?_⟩, Or.inl ⟨rfl, ?_⟩, Or.inr ⟨14, true, 25, rfl, rfl, ?_⟩, Or.inl ⟨rfl, ?_⟩, Or.inl ⟨rfl, ?_⟩, trivial⟩ ?_
    · intro vs Wx A hA hB hpre K hK
      have e2 := (hA 2).trans (show _ = Value.pointer (some ⟨p, 0, none⟩) by kernel_rfl)
      obtain ⟨hx, hy⟩ := HXK.out Wx hB
      obtain ⟨x2, x3, x4, x5, x6, x7⟩ := six hx
      obtain ⟨y2, y3, y4, y5, y6, y7⟩ := six hy
      clear hA hpre
      go_simp
      first | exact hK _ _ hB rfl (fun _ _ h => h) | exact hK _ _ hB trivial (fun _ _ h => h) | (rw [if_neg (by omega)]; go_simp; exact hK _ _ hB rfl (fun _ _ h => h))
    · intro vs Wx A hA hB hpre K hK
      have e11 := ((hA 11).trans (show _ = vs 0 by kernel_rfl)).trans (by first | exact hpre.1 rfl | exact hpre.2.1 rfl | exact hpre.2.2.1 rfl | exact hpre.2.2.2.1 rfl | exact hpre.2.2.2.2.1 rfl | exact hpre.2.2.2.2.2.1 rfl | exact hpre.2.2.2.2.2.2.1 rfl | exact hpre.2.2.2.2.2.2.2.1 rfl | exact hpre.2.2.2.2.2.2.2.2.1 rfl | exact hpre.2.2.2.2.2.2.2.2.2.1 rfl)
      clear hA hpre
      go_simp
      try (go_at_call 14)
      refine (HC1.out Wx hB).mono ?_
      rintro e w4 ⟨rfl, hg⟩
      exact hK _ _ (below_trans hB hg) rfl (fun _ _ h => h)
    · intro vs Wx A hA hB hpre K hK
      have e2 := (hA 2).trans (show _ = Value.pointer (some ⟨p, 0, none⟩) by kernel_rfl)
      obtain ⟨hx, hy⟩ := HXK.out Wx hB
      obtain ⟨x2, x3, x4, x5, x6, x7⟩ := six hx
      obtain ⟨y2, y3, y4, y5, y6, y7⟩ := six hy
      clear hA hpre
      go_simp
      first | exact hK _ _ hB rfl (fun _ _ h => h) | exact hK _ _ hB trivial (fun _ _ h => h) | (rw [if_neg (by omega)]; go_simp; exact hK _ _ hB rfl (fun _ _ h => h))
    · intro vs Wx A hA hB hpre K hK
      have e13 := ((hA 13).trans (show _ = vs 2 by kernel_rfl)).trans (by first | exact hpre.1 rfl | exact hpre.2.1 rfl | exact hpre.2.2.1 rfl | exact hpre.2.2.2.1 rfl | exact hpre.2.2.2.2.1 rfl | exact hpre.2.2.2.2.2.1 rfl | exact hpre.2.2.2.2.2.2.1 rfl | exact hpre.2.2.2.2.2.2.2.1 rfl | exact hpre.2.2.2.2.2.2.2.2.1 rfl | exact hpre.2.2.2.2.2.2.2.2.2.1 rfl)
      clear hA hpre
      go_simp
      try (go_at_call 15)
      refine (HC2.out Wx hB).mono ?_
      rintro e w4 ⟨rfl, hg⟩
      exact hK _ _ (below_trans hB hg) rfl (fun _ _ h => h)
    · intro vs Wx A hA hB hpre K hK
      have e12 := ((hA 12).trans (show _ = vs 1 by kernel_rfl)).trans (by first | exact hpre.1 rfl | exact hpre.2.1 rfl | exact hpre.2.2.1 rfl | exact hpre.2.2.2.1 rfl | exact hpre.2.2.2.2.1 rfl | exact hpre.2.2.2.2.2.1 rfl | exact hpre.2.2.2.2.2.2.1 rfl | exact hpre.2.2.2.2.2.2.2.1 rfl | exact hpre.2.2.2.2.2.2.2.2.1 rfl | exact hpre.2.2.2.2.2.2.2.2.2.1 rfl)
      have e14 := ((hA 14).trans (show _ = vs 3 by kernel_rfl)).trans (by first | exact hpre.1 rfl | exact hpre.2.1 rfl | exact hpre.2.2.1 rfl | exact hpre.2.2.2.1 rfl | exact hpre.2.2.2.2.1 rfl | exact hpre.2.2.2.2.2.1 rfl | exact hpre.2.2.2.2.2.2.1 rfl | exact hpre.2.2.2.2.2.2.2.1 rfl | exact hpre.2.2.2.2.2.2.2.2.1 rfl | exact hpre.2.2.2.2.2.2.2.2.2.1 rfl)
      clear hA hpre
      go_simp
      first | exact hK _ _ hB rfl (fun _ _ h => h) | exact hK _ _ hB trivial (fun _ _ h => h) | (rw [if_neg (by omega)]; go_simp; exact hK _ _ hB rfl (fun _ _ h => h))
    · intro vs Wx A hA hB hpre K hK
      have e15 := ((hA 15).trans (show _ = vs 4 by kernel_rfl)).trans (by first | exact hpre.1 rfl | exact hpre.2.1 rfl | exact hpre.2.2.1 rfl | exact hpre.2.2.2.1 rfl | exact hpre.2.2.2.2.1 rfl | exact hpre.2.2.2.2.2.1 rfl | exact hpre.2.2.2.2.2.2.1 rfl | exact hpre.2.2.2.2.2.2.2.1 rfl | exact hpre.2.2.2.2.2.2.2.2.1 rfl | exact hpre.2.2.2.2.2.2.2.2.2.1 rfl)
      clear hA hpre
      go_simp
      first | exact hK _ _ hB rfl (fun _ _ h => h) | exact hK _ _ hB trivial (fun _ _ h => h) | (rw [if_neg (by omega)]; go_simp; exact hK _ _ hB rfl (fun _ _ h => h))
    · intro vs Wx A hA hB hpre
      have eg := ((hA 16).trans (show _ = vs 5 by kernel_rfl)).trans (by first | exact hpre.1 rfl | exact hpre.2.1 rfl | exact hpre.2.2.1 rfl | exact hpre.2.2.2.1 rfl | exact hpre.2.2.2.2.1 rfl | exact hpre.2.2.2.2.2.1 rfl | exact hpre.2.2.2.2.2.2.1 rfl | exact hpre.2.2.2.2.2.2.2.1 rfl | exact hpre.2.2.2.2.2.2.2.2.1 rfl | exact hpre.2.2.2.2.2.2.2.2.2.1 rfl)
      refine ⟨true, eg, fun _ K hK => ?_, fun h => absurd rfl h⟩
      have e2 := (hA 2).trans (show _ = Value.pointer (some ⟨p, 0, none⟩) by kernel_rfl)
      obtain ⟨hx, hy⟩ := HXK.out Wx hB
      obtain ⟨x2, x3, x4, x5, x6, x7⟩ := six hx
      obtain ⟨y2, y3, y4, y5, y6, y7⟩ := six hy
      clear hA hpre
      go_simp
      first | exact hK _ _ hB rfl (fun _ _ h => h) | exact hK _ _ hB trivial (fun _ _ h => h) | (rw [if_neg (by omega)]; go_simp; exact hK _ _ hB rfl (fun _ _ h => h))
    · intro vs Wx A hA hB hpre
      have eg := ((hA 16).trans (show _ = vs 5 by kernel_rfl)).trans (by first | exact hpre.1 rfl | exact hpre.2.1 rfl | exact hpre.2.2.1 rfl | exact hpre.2.2.2.1 rfl | exact hpre.2.2.2.2.1 rfl | exact hpre.2.2.2.2.2.1 rfl | exact hpre.2.2.2.2.2.2.1 rfl | exact hpre.2.2.2.2.2.2.2.1 rfl | exact hpre.2.2.2.2.2.2.2.2.1 rfl | exact hpre.2.2.2.2.2.2.2.2.2.1 rfl)
      refine ⟨true, eg, fun _ K hK => ?_, fun h => absurd rfl h⟩
      have e3 := (hA 3).trans (show _ = Value.pointer (some ⟨(p + 1), 0, none⟩) by kernel_rfl)
      obtain ⟨hx, hy⟩ := HXK.out Wx hB
      obtain ⟨x2, x3, x4, x5, x6, x7⟩ := six hx
      obtain ⟨y2, y3, y4, y5, y6, y7⟩ := six hy
      clear hA hpre
      go_simp
      first | exact hK _ _ hB rfl (fun _ _ h => h) | exact hK _ _ hB trivial (fun _ _ h => h) | (rw [if_neg (by omega)]; go_simp; exact hK _ _ hB rfl (fun _ _ h => h))
    · intro vs Wx A hA hB hpre
      have eg := ((hA 16).trans (show _ = vs 5 by kernel_rfl)).trans (by first | exact hpre.1 rfl | exact hpre.2.1 rfl | exact hpre.2.2.1 rfl | exact hpre.2.2.2.1 rfl | exact hpre.2.2.2.2.1 rfl | exact hpre.2.2.2.2.2.1 rfl | exact hpre.2.2.2.2.2.2.1 rfl | exact hpre.2.2.2.2.2.2.2.1 rfl | exact hpre.2.2.2.2.2.2.2.2.1 rfl | exact hpre.2.2.2.2.2.2.2.2.2.1 rfl)
      refine ⟨true, eg, fun _ K hK => ?_, fun h => absurd rfl h⟩
      have e17 := ((hA 17).trans (show _ = vs 6 by kernel_rfl)).trans (by first | exact hpre.1 rfl | exact hpre.2.1 rfl | exact hpre.2.2.1 rfl | exact hpre.2.2.2.1 rfl | exact hpre.2.2.2.2.1 rfl | exact hpre.2.2.2.2.2.1 rfl | exact hpre.2.2.2.2.2.2.1 rfl | exact hpre.2.2.2.2.2.2.2.1 rfl | exact hpre.2.2.2.2.2.2.2.2.1 rfl | exact hpre.2.2.2.2.2.2.2.2.2.1 rfl)
      have e18 := ((hA 18).trans (show _ = vs 7 by kernel_rfl)).trans (by first | exact hpre.1 rfl | exact hpre.2.1 rfl | exact hpre.2.2.1 rfl | exact hpre.2.2.2.1 rfl | exact hpre.2.2.2.2.1 rfl | exact hpre.2.2.2.2.2.1 rfl | exact hpre.2.2.2.2.2.2.1 rfl | exact hpre.2.2.2.2.2.2.2.1 rfl | exact hpre.2.2.2.2.2.2.2.2.1 rfl | exact hpre.2.2.2.2.2.2.2.2.2.1 rfl)
      clear hA hpre
      go_simp
      try (go_at_call 16)
      refine (HC3.out Wx hB).mono ?_
      rintro e w4 ⟨rfl, hg⟩
      exact hK _ _ (below_trans hB hg) rfl (fun _ _ h => h)
    · intro vs Wx A hA hB hpre
      have eg := ((hA 16).trans (show _ = vs 5 by kernel_rfl)).trans (by first | exact hpre.1 rfl | exact hpre.2.1 rfl | exact hpre.2.2.1 rfl | exact hpre.2.2.2.1 rfl | exact hpre.2.2.2.2.1 rfl | exact hpre.2.2.2.2.2.1 rfl | exact hpre.2.2.2.2.2.2.1 rfl | exact hpre.2.2.2.2.2.2.2.1 rfl | exact hpre.2.2.2.2.2.2.2.2.1 rfl | exact hpre.2.2.2.2.2.2.2.2.2.1 rfl)
      refine ⟨true, eg, fun _ K hK => ?_, fun h => absurd rfl h⟩
      have e2 := (hA 2).trans (show _ = Value.pointer (some ⟨p, 0, none⟩) by kernel_rfl)
      obtain ⟨hx, hy⟩ := HXK.out Wx hB
      obtain ⟨x2, x3, x4, x5, x6, x7⟩ := six hx
      obtain ⟨y2, y3, y4, y5, y6, y7⟩ := six hy
      clear hA hpre
      go_simp
      first | exact hK _ _ hB rfl (fun _ _ h => h) | exact hK _ _ hB trivial (fun _ _ h => h) | (rw [if_neg (by omega)]; go_simp; exact hK _ _ hB rfl (fun _ _ h => h))
    · intro vs Wx A hA hB hpre
      have eg := ((hA 16).trans (show _ = vs 5 by kernel_rfl)).trans (by first | exact hpre.1 rfl | exact hpre.2.1 rfl | exact hpre.2.2.1 rfl | exact hpre.2.2.2.1 rfl | exact hpre.2.2.2.2.1 rfl | exact hpre.2.2.2.2.2.1 rfl | exact hpre.2.2.2.2.2.2.1 rfl | exact hpre.2.2.2.2.2.2.2.1 rfl | exact hpre.2.2.2.2.2.2.2.2.1 rfl | exact hpre.2.2.2.2.2.2.2.2.2.1 rfl)
      refine ⟨true, eg, fun _ K hK => ?_, fun h => absurd rfl h⟩
      have e3 := (hA 3).trans (show _ = Value.pointer (some ⟨(p + 1), 0, none⟩) by kernel_rfl)
      obtain ⟨hx, hy⟩ := HXK.out Wx hB
      obtain ⟨x2, x3, x4, x5, x6, x7⟩ := six hx
      obtain ⟨y2, y3, y4, y5, y6, y7⟩ := six hy
      clear hA hpre
      go_simp
      first | exact hK _ _ hB rfl (fun _ _ h => h) | exact hK _ _ hB trivial (fun _ _ h => h) | (rw [if_neg (by omega)]; go_simp; exact hK _ _ hB rfl (fun _ _ h => h))
    · intro vs Wx A hA hB hpre
      have eg := ((hA 16).trans (show _ = vs 5 by kernel_rfl)).trans (by first | exact hpre.1 rfl | exact hpre.2.1 rfl | exact hpre.2.2.1 rfl | exact hpre.2.2.2.1 rfl | exact hpre.2.2.2.2.1 rfl | exact hpre.2.2.2.2.2.1 rfl | exact hpre.2.2.2.2.2.2.1 rfl | exact hpre.2.2.2.2.2.2.2.1 rfl | exact hpre.2.2.2.2.2.2.2.2.1 rfl | exact hpre.2.2.2.2.2.2.2.2.2.1 rfl)
      refine ⟨true, eg, fun _ K hK => ?_, fun h => absurd rfl h⟩
      have e20 := ((hA 20).trans (show _ = vs 9 by kernel_rfl)).trans (by first | exact hpre.1 rfl | exact hpre.2.1 rfl | exact hpre.2.2.1 rfl | exact hpre.2.2.2.1 rfl | exact hpre.2.2.2.2.1 rfl | exact hpre.2.2.2.2.2.1 rfl | exact hpre.2.2.2.2.2.2.1 rfl | exact hpre.2.2.2.2.2.2.2.1 rfl | exact hpre.2.2.2.2.2.2.2.2.1 rfl | exact hpre.2.2.2.2.2.2.2.2.2.1 rfl)
      have e21 := ((hA 21).trans (show _ = vs 10 by kernel_rfl)).trans (by first | exact hpre.1 rfl | exact hpre.2.1 rfl | exact hpre.2.2.1 rfl | exact hpre.2.2.2.1 rfl | exact hpre.2.2.2.2.1 rfl | exact hpre.2.2.2.2.2.1 rfl | exact hpre.2.2.2.2.2.2.1 rfl | exact hpre.2.2.2.2.2.2.2.1 rfl | exact hpre.2.2.2.2.2.2.2.2.1 rfl | exact hpre.2.2.2.2.2.2.2.2.2.1 rfl)
      clear hA hpre
      go_simp
      try (go_at_call 12)
      refine (HC4.out Wx hB).mono ?_
      rintro e w4 ⟨rfl, hg⟩
      exact hK _ _ (below_trans hB hg) rfl (fun _ _ h => h)
    · intro vs Wx A hA hB hpre
      have eg := ((hA 16).trans (show _ = vs 5 by kernel_rfl)).trans (by first | exact hpre.1 rfl | exact hpre.2.1 rfl | exact hpre.2.2.1 rfl | exact hpre.2.2.2.1 rfl | exact hpre.2.2.2.2.1 rfl | exact hpre.2.2.2.2.2.1 rfl | exact hpre.2.2.2.2.2.2.1 rfl | exact hpre.2.2.2.2.2.2.2.1 rfl | exact hpre.2.2.2.2.2.2.2.2.1 rfl | exact hpre.2.2.2.2.2.2.2.2.2.1 rfl)
      refine ⟨true, eg, fun _ K hK => ?_, fun h => absurd rfl h⟩
      have e19 := ((hA 19).trans (show _ = vs 8 by kernel_rfl)).trans (by first | exact hpre.1 rfl | exact hpre.2.1 rfl | exact hpre.2.2.1 rfl | exact hpre.2.2.2.1 rfl | exact hpre.2.2.2.2.1 rfl | exact hpre.2.2.2.2.2.1 rfl | exact hpre.2.2.2.2.2.2.1 rfl | exact hpre.2.2.2.2.2.2.2.1 rfl | exact hpre.2.2.2.2.2.2.2.2.1 rfl | exact hpre.2.2.2.2.2.2.2.2.2.1 rfl)
      have e22 := ((hA 22).trans (show _ = vs 11 by kernel_rfl)).trans (by first | exact hpre.1 rfl | exact hpre.2.1 rfl | exact hpre.2.2.1 rfl | exact hpre.2.2.2.1 rfl | exact hpre.2.2.2.2.1 rfl | exact hpre.2.2.2.2.2.1 rfl | exact hpre.2.2.2.2.2.2.1 rfl | exact hpre.2.2.2.2.2.2.2.1 rfl | exact hpre.2.2.2.2.2.2.2.2.1 rfl | exact hpre.2.2.2.2.2.2.2.2.2.1 rfl)
      clear hA hpre
      go_simp
      first | exact hK _ _ hB rfl (fun _ _ h => h) | exact hK _ _ hB trivial (fun _ _ h => h) | (rw [if_neg (by omega)]; go_simp; exact hK _ _ hB rfl (fun _ _ h => h))
    · intro vs Wx A hA hB hpre K hK
      have e16 := ((hA 16).trans (show _ = vs 5 by kernel_rfl)).trans (by first | exact hpre.1 rfl | exact hpre.2.1 rfl | exact hpre.2.2.1 rfl | exact hpre.2.2.2.1 rfl | exact hpre.2.2.2.2.1 rfl | exact hpre.2.2.2.2.2.1 rfl | exact hpre.2.2.2.2.2.2.1 rfl | exact hpre.2.2.2.2.2.2.2.1 rfl | exact hpre.2.2.2.2.2.2.2.2.1 rfl | exact hpre.2.2.2.2.2.2.2.2.2.1 rfl)
      have e23 := ((hA 23).trans (show _ = vs 12 by kernel_rfl)).trans (by first | exact hpre.1 rfl | exact hpre.2.1 rfl | exact hpre.2.2.1 rfl | exact hpre.2.2.2.1 rfl | exact hpre.2.2.2.2.1 rfl | exact hpre.2.2.2.2.2.1 rfl | exact hpre.2.2.2.2.2.2.1 rfl | exact hpre.2.2.2.2.2.2.2.1 rfl | exact hpre.2.2.2.2.2.2.2.2.1 rfl | exact hpre.2.2.2.2.2.2.2.2.2.1 rfl)
      clear hA hpre
      go_simp
      first | exact hK _ _ hB rfl (fun _ _ h => h) | exact hK _ _ hB trivial (fun _ _ h => h) | (rw [if_neg (by omega)]; go_simp; exact hK _ _ hB rfl (fun _ _ h => h))
    · intro vs Wx A hA hB hpre K hK
      have e24 := ((hA 24).trans (show _ = vs 13 by kernel_rfl)).trans (by first | exact hpre.1 rfl | exact hpre.2.1 rfl | exact hpre.2.2.1 rfl | exact hpre.2.2.2.1 rfl | exact hpre.2.2.2.2.1 rfl | exact hpre.2.2.2.2.2.1 rfl | exact hpre.2.2.2.2.2.2.1 rfl | exact hpre.2.2.2.2.2.2.2.1 rfl | exact hpre.2.2.2.2.2.2.2.2.1 rfl | exact hpre.2.2.2.2.2.2.2.2.2.1 rfl)
      clear hA hpre
      go_simp
      first | exact hK _ _ hB rfl (fun _ _ h => h) | exact hK _ _ hB trivial (fun _ _ h => h) | (rw [if_neg (by omega)]; go_simp; exact hK _ _ hB rfl (fun _ _ h => h))
    · intro vs Wx A hA hB hpre
      have eg := ((hA 25).trans (show _ = vs 14 by kernel_rfl)).trans (by first | exact hpre.1 rfl | exact hpre.2.1 rfl | exact hpre.2.2.1 rfl | exact hpre.2.2.2.1 rfl | exact hpre.2.2.2.2.1 rfl | exact hpre.2.2.2.2.2.1 rfl | exact hpre.2.2.2.2.2.2.1 rfl | exact hpre.2.2.2.2.2.2.2.1 rfl | exact hpre.2.2.2.2.2.2.2.2.1 rfl | exact hpre.2.2.2.2.2.2.2.2.2.1 rfl)
      refine ⟨true, eg, fun _ K hK => ?_, fun h => absurd rfl h⟩
      clear hA hpre
      go_simp
      try (go_at_call 9)
      refine (HW.out Wx).mono ?_
      rintro e w4 ⟨rfl, hg⟩
      exact hK _ _ (below_trans hB hg) rfl (fun _ _ h => h)
    · intro vs Wx A hA hB hpre K hK
      have e25 := ((hA 25).trans (show _ = vs 14 by kernel_rfl)).trans (by first | exact hpre.1 rfl | exact hpre.2.1 rfl | exact hpre.2.2.1 rfl | exact hpre.2.2.2.1 rfl | exact hpre.2.2.2.2.1 rfl | exact hpre.2.2.2.2.2.1 rfl | exact hpre.2.2.2.2.2.2.1 rfl | exact hpre.2.2.2.2.2.2.2.1 rfl | exact hpre.2.2.2.2.2.2.2.2.1 rfl | exact hpre.2.2.2.2.2.2.2.2.2.1 rfl)
      have e26 := ((hA 26).trans (show _ = vs 15 by kernel_rfl)).trans (by first | exact hpre.1 rfl | exact hpre.2.1 rfl | exact hpre.2.2.1 rfl | exact hpre.2.2.2.1 rfl | exact hpre.2.2.2.2.1 rfl | exact hpre.2.2.2.2.2.1 rfl | exact hpre.2.2.2.2.2.2.1 rfl | exact hpre.2.2.2.2.2.2.2.1 rfl | exact hpre.2.2.2.2.2.2.2.2.1 rfl | exact hpre.2.2.2.2.2.2.2.2.2.1 rfl)
      clear hA hpre
      go_simp
      first | exact hK _ _ hB rfl (fun _ _ h => h) | exact hK _ _ hB trivial (fun _ _ h => h) | (rw [if_neg (by omega)]; go_simp; exact hK _ _ hB rfl (fun _ _ h => h))
    · intro vs Wx A hA hB hpre K hK
      have e27 := ((hA 27).trans (show _ = vs 16 by kernel_rfl)).trans (by first | exact hpre.1 rfl | exact hpre.2.1 rfl | exact hpre.2.2.1 rfl | exact hpre.2.2.2.1 rfl | exact hpre.2.2.2.2.1 rfl | exact hpre.2.2.2.2.2.1 rfl | exact hpre.2.2.2.2.2.2.1 rfl | exact hpre.2.2.2.2.2.2.2.1 rfl | exact hpre.2.2.2.2.2.2.2.2.1 rfl | exact hpre.2.2.2.2.2.2.2.2.2.1 rfl)
      clear hA hpre
      go_simp
      first | exact hK _ _ hB rfl (fun _ _ h => h) | exact hK _ _ hB trivial (fun _ _ h => h) | (rw [if_neg (by omega)]; go_simp; exact hK _ _ hB rfl (fun _ _ h => h))
    · intro vs Wx hB hF
      have hL : vs 17 = .bool true := hF 17 (by decide)
      have HB3 := Lib.hid (HBF.out Wx hB)
      clear hF hB HXK HC1 HC2 HC3 HC4 HD
      simp only [Ri.puts]
      rw [hL]
      clear hL
      go_simp
      go_wp2
      go_ret
      exact ⟨rfl, by first | exact HB3.out | (rw [hp]; exact HB3.out)⟩

/-! ### the row's step -/
theorem laidOut : laidOutB Try.prog = true := by kernel_rfl
theorem lifted (os : Os) (started : os.Started) (H : Type) (enc : TypeId × Value → H) :
    ReturnsInHanded {} Try.checked os 4 .any (Rows.svcChecksSpec.pre6 enc Try.prog Try.f4 Rows.svcChecksRow.domain false) (Rows.svcChecksSpec.post enc Try.prog Try.f4 false true false false) := by
  refine returnsInHanded_of_change_shaped (C := Try.checked) own started (by kernel_rfl) Try.func4
    (ChangeSpec.witness6 (enc := enc) (C := Try.checked) false ⟨#[], #[.agg #[.string ByteArray.empty, .int .i64 0, .int .i64 0, .int .i64 0, .int .i64 0, .slice none 0 0], .agg #[.string ByteArray.empty, .int .i64 0, .int .i64 0, .int .i64 0, .int .i64 0, .slice none 0 0]], []⟩ 8 (by kernel_rfl) (by kernel_rfl) (by kernel_rfl) (by kernel_rfl)) ?_
  intro W base args ds gs before hval0 hW hcnd hwt _ _
  have hval : ∀ (j : Nat) t v, Try.f4.params[j]? = some t → args[j]? = some v → Value.okWide Try.prog W .any base t v := hval0
  have hW' := hW
  obtain ⟨p, q, hA0, hV, rfl, hfz, hnd⟩ := hW
  have hA : DataW.TrodAll enc Try.prog W 0 (fun _ => true) true Try.f4.params.toList args.toList ds p := hA0
  rw [Try.params4] at hA hval hwt
  obtain ⟨v0, vs0, d0, ds0, p0, q0, hargs, rfl, rfl, h0, r0⟩ := trodAll_cons hA
  obtain ⟨v1, vs1, d1, ds1, p1, q1, rfl, rfl, rfl, h1, r1⟩ := trodAll_cons r0
  obtain ⟨rfl, rfl, rfl⟩ := trodAll_nil r1
  obtain rfl : args = #[v0, v1] := by cases args; simp_all
  obtain ⟨rfl, rfl⟩ := trodVars_none hV
  have hwl : ∀ z, (z ∈ d0.weights Try.prog 30 → z ≤ reachBytes) ∧ (z ∈ d1.weights Try.prog 30 → z ≤ reachBytes) := fun z => by
    have h := List.all_eq_true.1 hwt z
    simp only [decide_eq_true_eq] at h
    refine ⟨fun hz => h ?_, fun hz => h ?_⟩
    all_goals
      simp only [List.cons_append, List.nil_append, List.toList_toArray, List.append_nil, DataW.weightsEach, List.mem_append]
      first | exact Or.inl hz | exact Or.inr (Or.inl hz) | exact Or.inr (Or.inr (Or.inl hz)) | exact Or.inr (Or.inr (Or.inr (Or.inl hz))) | exact Or.inr (Or.inr (Or.inr (Or.inr (Or.inl hz)))) | exact Or.inr (Or.inr (Or.inr (Or.inr (Or.inr (Or.inl hz))))) | exact Or.inr (Or.inr (Or.inr (Or.inr (Or.inr (Or.inr (Or.inl hz)))))) | simp [hz]
  have k0 := h0
  have lt0 : ∀ x ∈ p0, x.block < W.heap.size := by obtain ⟨m, hm⟩ := k0; exact DataW.trod_lt m _ _ _ hm
  obtain ⟨x0, m0, rfl, g0, z0⟩ := So.open_clp (hval 0 30 v0 rfl rfl) h0 (fun z hz => (hwl z).1 hz)
  have k1 := h1
  have lt1 : ∀ x ∈ p1, x.block < W.heap.size := by obtain ⟨m, hm⟩ := k1; exact DataW.trod_lt m _ _ _ hm
  obtain ⟨x1, m1, rfl, g1, z1⟩ := So.open_clp (hval 1 30 v1 rfl rfl) h1 (fun z hz => (hwl z).2 hz)
  clear hA0 hval0
  refine (walk W x0 m0 g0 z0 x1 m1 g1 z1).mono fun e W' ⟨he, bel⟩ => ?_
  subst he
  exact ⟨_, rfl, _, _, _, [], _, [], hW', (trodAll_cons_mk (shut_bool Try.underlying4 _) trodAll_mk0), (trodAll_cons_mk (Below.trod laidOut (by kernel_rfl) (of_decide_eq_true (by kernel_rfl)) k0 bel lt0) (trodAll_cons_mk (Below.trod laidOut (by kernel_rfl) (of_decide_eq_true (by kernel_rfl)) k1 bel lt1) trodAll_mk0)), rfl, bel.frame _, fun h => by cases h⟩

theorem over : Rows.svcChecksRow.holds Try.pinned (OpenSpec.ofChange Rows.svcChecksSpec) :=
  OpenClaim.holds_of_wide 4 Try.f4 rfl rfl rfl rfl rfl rfl rfl ⟨rfl, rfl, rfl, rfl, rfl⟩ rfl rfl rfl rfl rfl (by kernel_rfl) Try.func4 (by kernel_rfl)
    (of_decide_eq_true (by kernel_rfl)) (by unfold Func.isWrapper; first | (rw [if_pos (by decide +kernel)]; kernel_rfl) | (rw [if_neg (by decide +kernel)]; exact ⟨rfl, rfl⟩))
    (fun os started H enc _ => lifted os started H enc)

/-- The statement. -/
theorem proved : Rows.SvcChecksSaid := over
end Go.Proofs.Ytpnkgkchpoehcaa.svcChecks
namespace Go.Proofs.Ytpnkgkchpoehcaa
theorem svcChecks_holds : Rows.SvcChecksSaid := svcChecks.proved
#print axioms svcChecks_holds
end Go.Proofs.Ytpnkgkchpoehcaa
