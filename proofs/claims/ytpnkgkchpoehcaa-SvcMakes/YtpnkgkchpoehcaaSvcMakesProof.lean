/-
  The statement SvcMakes (20.1, 20.2): what became of any claim, as adjustments, or that it does not balance, is what the chapter says; for all claims and outcomes.
-/
import Derived.Test.YtpnkgkchpoehcaaRows
import Derived.WalkKit
import Derived.ProofKit
import Derived.OpenShut
import Derived.ShutString
import Derived.Below
import Derived.Carry
import Derived.Laws.Cover2
import Derived.HandedShaped
import Derived.Test.YtpnkgkchpoehcaaVSmall
import Derived.Test.YtpnkgkchpoehcaaVROf
import Derived.Test.YtpnkgkchpoehcaaVOpen
namespace Go.Proofs.Ytpnkgkchpoehcaa.svcMakes
open Go.ChangeShapes Go.WideShapes Go.ChangeAt Go.RowKit
open Sv
open Bk (keepB below_alloc below_trans alloc_new)
open Go.ChangeMaps (open_string)
set_option linter.unusedVariables false
set_option linter.unusedSimpArgs false
set_option maxRecDepth 100000

theorem own : ownKnob Try.prog.godebug = none := by kernel_rfl

/-! ### the walk: the law returns true -/
set_option maxHeartbeats 16000000 in
theorem walk (w : World) (x0 : Cm.Cl) (m0 : Value) (h0 : Cm.LnsAt All w m0 x0.lines) (z0 : Cm.ClOk x0) (v1 : Value) (l1 : List Sh.Ot) (h1 : Bk.OtsAt All w v1 l1) (z1 : l1.length ≤ 281474976710656) :
    Calls Try.prog 3 #[Cm.clv x0 m0, v1] w fun e w' => e = .returned (.bool true) ∧ Below w.heap.size w w' := by
  have HW := Lib.hid works_any
  obtain ⟨al, cl, rfl, f1, f2⟩ := Cm.LnsAt.form h0
  obtain ⟨ao, co, rfl, f3, f4⟩ := h1.form
  have hb0 := below_alloc w (.cells #[.string (mk x0.id), .string (mk x0.mem), .string (mk x0.fam), .int .i64 x0.net, .int .i64 x0.does, .string (mk x0.ref), .slice al x0.lines.length cl] 24)
  have HB := Lib.hid hb0
  have HX := Lib.hid (alloc_new w #[.string (mk x0.id), .string (mk x0.mem), .string (mk x0.fam), .int .i64 x0.net, .int .i64 x0.does, .string (mk x0.ref), .slice al x0.lines.length cl] 24)
  have HL : Hid (∀ W, Below w.heap.size w W → Cm.LnsAt All W (.slice al x0.lines.length cl) x0.lines) := fun W hW => Cm.LnsAt.move h0 (Below.moves hW)
  have HO : Hid (∀ W, Below w.heap.size w W → Bk.OtsAt All W (.slice ao l1.length co) l1) := fun W hW => h1.grw hW
  have HZ := Lib.hid z0
  have HZ1 := Lib.hid z1
  clear h0 h1 hb0 z0 z1
  go_enter Try.func3, Try.ntmps3
  go_upto_region 1 with fail
  generalize w.alloc (.cells #[.string (mk x0.id), .string (mk x0.mem), .string (mk x0.fam), .int .i64 x0.net, .int .i64 x0.does, .string (mk x0.ref), .slice al x0.lines.length cl] 24) = W at *
  generalize hp : w.heap.size = p at *
  have HPW : Hid (p ≤ W.heap.size) := by have := HB.out.size; rw [hp] at this; exact this
  obtain ⟨y0, y1, y2, y3, y4, y5, y6⟩ := seven HX.out
  have HSM := Lib.hid (small_any x0 _ l1 _ W (HL.out W HB.out) (HO.out W HB.out) HZ.out HZ1.out)
  go_wp2_with fail
  try (go_at_call 8)
  refine HSM.out.mono ?_
  rintro e w1 ⟨⟨b, rfl, hbt⟩, hb1⟩
  have HB1 : Hid (Below W.heap.size W w1) := hb1
  have HBw1 : Hid (Below p w w1) := HB.out.trans (hb1.mono HPW.out)
  have HPS : Hid (p ≤ w1.heap.size) := Nat.le_trans HPW.out hb1.size
  clear HSM hb1 y0 y1 y2 y3 y4 y5 y6
  obtain ⟨y0, y1, y2, y3, y4, y5, y6⟩ := seven (keepB HX.out HB1.out)
  cases b with
  | false =>
    go_wp2_with (first | (go_at_call 9; refine (HW.out _).mono ?_; rintro e w2 ⟨rfl, hb⟩; have HB2 : Hid (Below p w w2) := HBw1.out.trans (hb.mono HPS.out); clear hb))
    go_ret
    exact ⟨rfl, by first | exact HB2.out | (rw [hp]; exact HB2.out)⟩
  | true =>
    obtain ⟨hs, h300⟩ := hbt rfl
    have HXB := Lib.hid (keepB HX.out HB1.out)
    have HO1 := Lib.hid (of_any x0 _ l1 _ w1 (HL.out w1 HBw1.out) (HO.out w1 HBw1.out) HZ.out hs)
    have HO2 : Hid (∀ W', Below p w W' → Calls Try.prog 11 #[Cm.clv x0 (.slice al x0.lines.length cl), .slice ao l1.length co] W' fun e w' => OfV x0 l1 W' e w') := fun W' hW => rof_any x0 _ l1 _ W' (HL.out W' hW) (HO.out W' hW) HZ.out hs h300
    clear hs h300 hbt HL HO
    unfold OfV at HO1 HO2
    have HSA := Lib.hid (same_self (ofV x0 l1))
    generalize ofV x0 l1 = X at *
    generalize ofE x0 l1 = E at *
    go_wp2_with fail
    try (go_at_call 10)
    refine HO1.out.mono ?_
    rintro e w2 ⟨⟨u, rfl, hu⟩, hb2⟩
    have hu2 := hu.all
    obtain ⟨ua, uc, rfl, -, -⟩ := hu2.form
    have HU2 := Lib.hid hu2
    have HC2 : Hid (Below w1.heap.size w1 (w2.alloc (.cells (cpe X (.slice ua X.svs.length uc)) 30))) := below_trans hb2 (below_alloc w2 _)
    have HB2 : Hid (Below p w (w2.alloc (.cells (cpe X (.slice ua X.svs.length uc)) 30))) := HBw1.out.trans (HC2.out.mono HPS.out)
    have HX2 := Lib.hid (keepB HXB.out HC2.out)
    have HA2 := Lib.hid (alloc_new w2 (cpe X (.slice ua X.svs.length uc)) 30)
    have HU3 : Hid (SvsAt All (w2.alloc (.cells (cpe X (.slice ua X.svs.length uc)) 30)) (.slice ua X.svs.length uc) X.svs) := HU2.out.grw (below_alloc w2 _)
    have HP2 : Hid (p ≤ (w2.alloc (.cells (cpe X (.slice ua X.svs.length uc)) 30)).heap.size) := Nat.le_trans HPS.out HC2.out.size
    clear hb2 hu hu2 HO1 HU2 y0 y1 y2 y3 y4 y5 y6
    go_upto_region 4 with fail
    obtain ⟨W2, hW2⟩ : ∃ z, z = w2.alloc (.cells (cpe X (.slice ua X.svs.length uc)) 30) := ⟨_, rfl⟩
    rw [← hW2] at HC2 HB2 HX2 HA2 HU3 HP2 ⊢
    clear hW2
    generalize w2.heap.size = q2 at *
    obtain ⟨y0, y1, y2, y3, y4, y5, y6⟩ := seven HX2.out
    go_wp2_with fail
    try (go_at_call 11)
    refine (HO2.out W2 HB2.out).mono ?_
    rintro e w3 ⟨⟨v, rfl, hv⟩, hb3⟩
    have hv2 := hv.all
    obtain ⟨va, vc, rfl, -, -⟩ := hv2.form
    have hc3 : Below W2.heap.size W2 (w3.alloc (.cells (cpe X (.slice va X.svs.length vc)) 30)) := below_trans hb3 (below_alloc w3 _)
    have HB3 : Hid (Below p w (w3.alloc (.cells (cpe X (.slice va X.svs.length vc)) 30))) := HB2.out.trans (hc3.mono HP2.out)
    have HA3 := Lib.hid (keepB HA2.out hc3)
    have HV3 := Lib.hid (alloc_new w3 (cpe X (.slice va X.svs.length vc)) 30)
    have HU4 := Lib.hid (HU3.out.grw hc3)
    have HV4 : Hid (SvsAt All (w3.alloc (.cells (cpe X (.slice va X.svs.length vc)) 30)) (.slice va X.svs.length vc) X.svs) := hv2.grw (below_alloc w3 _)
    have HP3 : Hid (p ≤ (w3.alloc (.cells (cpe X (.slice va X.svs.length vc)) 30)).heap.size) := Nat.le_trans HP2.out hc3.size
    clear hb3 hv hv2 hc3 HO2 y0 y1 y2 y3 y4 y5 y6
    go_upto_region 5 with fail
    obtain ⟨W3, hW3⟩ : ∃ z, z = w3.alloc (.cells (cpe X (.slice va X.svs.length vc)) 30) := ⟨_, rfl⟩
    rw [← hW3] at HB3 HA3 HV3 HU4 HV4 HP3 ⊢
    clear hW3
    generalize w3.heap.size = q3 at *
    obtain ⟨c0, c1, c2, c3, c4, c5⟩ := six HA3.out
    obtain ⟨d0, d1, d2, d3, d4, d5⟩ := six HV3.out
    go_wp2_with fail
    try (go_at_call 12)
    refine (HSA.out _ _ W3 HU4.out HV4.out).mono ?_
    rintro e w4 ⟨rfl, hb4⟩
    have HB4 : Hid (Below p w w4) := HB3.out.trans (hb4.mono HP3.out)
    have HP4 : Hid (p ≤ w4.heap.size) := Nat.le_trans HP3.out hb4.size
    clear hb4
    go_wp2_with (first | (go_at_call 9; refine (HW.out _).mono ?_; rintro e w5 ⟨rfl, hb⟩; have HB5 : Hid (Below p w w5) := HB4.out.trans (hb.mono HP4.out); clear hb))
    go_ret
    exact ⟨rfl, by first | exact HB5.out | (rw [hp]; exact HB5.out)⟩

/-! ### the row's step -/
theorem laidOut : laidOutB Try.prog = true := by kernel_rfl
theorem lifted (os : Os) (started : os.Started) (H : Type) (enc : TypeId × Value → H) :
    ReturnsInHanded {} Try.checked os 3 .any (Rows.svcMakesSpec.pre6 enc Try.prog Try.f3 Rows.svcMakesRow.domain false) (Rows.svcMakesSpec.post enc Try.prog Try.f3 false true false false) := by
  refine returnsInHanded_of_change_shaped (C := Try.checked) own started (by kernel_rfl) Try.func3
    (ChangeSpec.witness6 (enc := enc) (C := Try.checked) false ⟨#[], #[.agg #[.string ByteArray.empty, .string ByteArray.empty, .string ByteArray.empty, .int .i64 0, .int .i64 0, .string ByteArray.empty, .slice none 0 0], .slice none 0 0], []⟩ 8 (by kernel_rfl) (by kernel_rfl) (by kernel_rfl) (by kernel_rfl)) ?_
  intro W base args ds gs before hval0 hW hcnd hwt _ _
  have hval : ∀ (j : Nat) t v, Try.f3.params[j]? = some t → args[j]? = some v → Value.okWide Try.prog W .any base t v := hval0
  have hW' := hW
  obtain ⟨p, q, hA0, hV, rfl, hfz, hnd⟩ := hW
  have hA : DataW.TrodAll enc Try.prog W 0 (fun _ => true) true Try.f3.params.toList args.toList ds p := hA0
  rw [Try.params3] at hA hval hwt
  obtain ⟨v0, vs0, d0, ds0, p0, q0, hargs, rfl, rfl, h0, r0⟩ := trodAll_cons hA
  obtain ⟨v1, vs1, d1, ds1, p1, q1, rfl, rfl, rfl, h1, r1⟩ := trodAll_cons r0
  obtain ⟨rfl, rfl, rfl⟩ := trodAll_nil r1
  obtain rfl : args = #[v0, v1] := by cases args; simp_all
  obtain ⟨rfl, rfl⟩ := trodVars_none hV
  have hwl : ∀ z, (z ∈ d0.weights Try.prog 24 → z ≤ reachBytes) ∧ (z ∈ d1.weights Try.prog 25 → z ≤ reachBytes) := fun z => by
    have h := List.all_eq_true.1 hwt z
    simp only [decide_eq_true_eq] at h
    refine ⟨fun hz => h ?_, fun hz => h ?_⟩
    all_goals
      simp only [List.cons_append, List.nil_append, List.toList_toArray, List.append_nil, DataW.weightsEach, List.mem_append]
      first | exact Or.inl hz | exact Or.inr (Or.inl hz) | exact Or.inr (Or.inr (Or.inl hz)) | exact Or.inr (Or.inr (Or.inr (Or.inl hz))) | exact Or.inr (Or.inr (Or.inr (Or.inr (Or.inl hz)))) | exact Or.inr (Or.inr (Or.inr (Or.inr (Or.inr (Or.inl hz))))) | exact Or.inr (Or.inr (Or.inr (Or.inr (Or.inr (Or.inr (Or.inl hz)))))) | simp [hz]
  have k0 := h0
  have lt0 : ∀ x ∈ p0, x.block < W.heap.size := by obtain ⟨m, hm⟩ := k0; exact DataW.trod_lt m _ _ _ hm
  obtain ⟨x0, m0, rfl, g0, z0⟩ := So.open_claim (hval 0 24 v0 rfl rfl) h0 (fun z hz => (hwl z).1 hz)
  have k1 := h1
  have lt1 : ∀ x ∈ p1, x.block < W.heap.size := by obtain ⟨m, hm⟩ := k1; exact DataW.trod_lt m _ _ _ hm
  obtain ⟨l1, g1, z1⟩ := So.open_os (okWide_slice Try.underlying25 (hval 1 25 v1 rfl rfl)) h1 (fun z hz => (hwl z).2 hz)
  clear hA0 hval0
  refine (walk W x0 m0 g0 z0 v1 l1 g1 z1).mono fun e W' ⟨he, bel⟩ => ?_
  subst he
  exact ⟨_, rfl, _, _, _, [], _, [], hW', (trodAll_cons_mk (shut_bool Try.underlying4 _) trodAll_mk0), (trodAll_cons_mk (Below.trod laidOut (by kernel_rfl) (of_decide_eq_true (by kernel_rfl)) k0 bel lt0) (trodAll_cons_mk (Below.trod laidOut (by kernel_rfl) (of_decide_eq_true (by kernel_rfl)) k1 bel lt1) trodAll_mk0)), rfl, bel.frame _, fun h => by cases h⟩

theorem over : Rows.svcMakesRow.holds Try.pinned (OpenSpec.ofChange Rows.svcMakesSpec) :=
  OpenClaim.holds_of_wide 3 Try.f3 rfl rfl rfl rfl rfl rfl rfl ⟨rfl, rfl, rfl, rfl, rfl⟩ rfl rfl rfl rfl rfl (by kernel_rfl) Try.func3 (by kernel_rfl)
    (of_decide_eq_true (by kernel_rfl)) (by unfold Func.isWrapper; first | (rw [if_pos (by decide +kernel)]; kernel_rfl) | (rw [if_neg (by decide +kernel)]; exact ⟨rfl, rfl⟩))
    (fun os started H enc _ => lifted os started H enc)

/-- The statement. -/
theorem proved : Rows.SvcMakesSaid := over
end Go.Proofs.Ytpnkgkchpoehcaa.svcMakes
namespace Go.Proofs.Ytpnkgkchpoehcaa
theorem svcMakes_holds : Rows.SvcMakesSaid := svcMakes.proved
#print axioms svcMakes_holds
end Go.Proofs.Ytpnkgkchpoehcaa
