/-
  For every service, every text and all lengths: whether the service may be, and whether the text is a code, are what the reference says: the law returns true. The listed table is tied to the program's text.
-/
import Derived.Test.YtpmlmoclocccoaaDoorRows
import Derived.WalkKit
import Derived.ProofKit
import Derived.OpenShut
import Derived.ShutString
import Derived.Below
import Derived.Carry
import Derived.LaidMore
import Derived.Stop.Joined
import Derived.SevenTiedAt
import Derived.Deep.DeepCutAuto
import Derived.Test.YtpmlmoclocccoaaDoorLWorks
import Derived.Test.YtpmlmoclocccoaaDoorLRLine
import Derived.Test.YtpmlmoclocccoaaDoorLOpen
import Derived.Test.YtpmlmoclocccoaaDoorTie
import Derived.Test.YtpmlmoclocccoaaDoorCards
namespace Go.Proofs.YtpmlmoclocccoaaDoor.claimLines
open Go.ChangeShapes Go.WideShapes Go.ChangeAt Go.RowKit
open Cm
open Go.ChangeMaps (open_string)
set_option linter.unusedVariables false
set_option linter.unusedSimpArgs false


theorem own : ownKnob Tryd.prog.godebug = none := by kernel_rfl

/-! ### the walk: the law returns true -/
set_option maxHeartbeats 2000000 in
theorem walk (w : World) (x0 : Ln) (m0 : Value) (h0 : TxAt All w m0 x0.mods) (z0 : LnOk x0) (a1 : ByteArray) (w1 : a1.size ≤ maxLen) (a2 : Int) (w2 : (Lit.int .i64 a2).wf = true) (a3 : Int) (w3 : (Lit.int .i64 a3).wf = true) (hT : Da.Tab w) :
    Calls Tryd.prog 4 #[lnv x0 m0, .string a1, .int .i64 a2, .int .i64 a3] w fun e w' => e = .returned (.bool true) ∧ Below w.heap.size w w' := by
  have hs1 : (a1.data.toList).length ≤ 9223372036854775807 := by
    unfold maxLen at w1
    rw [← Lib.size_eq]
    exact w1
  have HC1 := Lib.hid fun W => code_any a1.data.toList a2 a3 W hs1
  have HC2 := Lib.hid fun W => rcode_any a1.data.toList a2 a3 W hs1
  rw [mk_of] at HC1 HC2
  have HL1 := Lib.hid fun W (hb : Below w.heap.size w W) => line_any x0 m0 W (TxAt.move h0 (Below.moves hb)) z0 (tab_below hT hb)
  have HL2 := Lib.hid fun W (hb : Below w.heap.size w W) => rline_any x0 m0 W (TxAt.move h0 (Below.moves hb)) z0
  have HWk := Lib.hid fun W (hb : Below w.heap.size w W) => works_any W (tab_below hT hb)
  have HSX : Hid (∀ W, Below (w.alloc (boxl x0 m0)).heap.size (w.alloc (boxl x0 m0)) W → LnBox W w.heap.size x0 m0 ∧ Below w.heap.size w W) := fun W hb => ⟨(LnBox.new w x0 m0 _).grw hb, below_trans (below_alloc w _) hb⟩
  have HBd : Hid (Below (w.alloc (boxl x0 m0)).heap.size (w.alloc (boxl x0 m0)) (w.alloc (boxl x0 m0)).drew) := Below.drew (Below.refl _ _)
  generalize lineE x0 = E at *
  generalize codeB a1.data.toList a2 a3 = B at *
  obtain ⟨am, cm, rfl, -, -⟩ := TxAt.form h0
  clear h0 z0 hT w1 w2 w3 hs1
  go_enter Tryd.func4, Tryd.ntmps4
  go_wp2_with fail
  go_region_held3 (fun W => W.cell? ⟨w.heap.size, 0, none⟩ = some (.string (mk x0.proc)) ∧ W.cell? ⟨w.heap.size, 1, none⟩ = some (.slice am x0.mods.length cm) ∧ W.cell? ⟨w.heap.size, 2, none⟩ = some (.int .i64 x0.date) ∧ W.cell? ⟨w.heap.size, 3, none⟩ = some (.int .i64 x0.units) ∧ W.cell? ⟨w.heap.size, 4, none⟩ = some (.int .i64 x0.billed) ∧ W.cell? ⟨w.heap.size, 5, none⟩ = some (.int .i64 x0.prior)) (go_keep) (first | (go_at_call 15; refine (HL1.out _ (HSX.out _ HBd.out).2).mono ?_; rintro e w1 ⟨rfl, hb⟩; have HB1 := Lib.hid (below_trans HBd.out hb); obtain ⟨p0, p1, p2, p3, p4, p5⟩ := (HSX.out _ HB1.out).1; clear hb) | (go_at_call 16; refine (HL2.out _ (HSX.out _ HB1.out).2).mono ?_; rintro e w2 ⟨rfl, hb⟩; have HB2 := Lib.hid (below_trans HB1.out hb); obtain ⟨q0, q1, q2, q3, q4, q5⟩ := (HSX.out _ HB2.out).1; clear hb) | (go_at_call 17; refine (HC1.out _).mono ?_; rintro e w' ⟨rfl, rfl⟩) | (go_at_call 18; refine (HC2.out _).mono ?_; rintro e w' ⟨rfl, rfl⟩) | (go_at_call 10; refine (HWk.out _ (HSX.out _ HB2.out).2).mono ?_; rintro e w3 ⟨rfl, hb⟩; have HB3 := Lib.hid (below_trans HB2.out hb); obtain ⟨r0, r1, r2, r3, r4, r5⟩ := (HSX.out _ HB3.out).1; clear hb))
  all_goals
    go_wp2
    go_ret
    exact ⟨rfl, (HSX.out _ HB3.out).2⟩

/-! ### the row's step -/
theorem laidOut : laidOutB Tryd.prog = true := by kernel_rfl
set_option maxRecDepth 100000 in
theorem lifted (os : Os) (started : os.Started) (H : Type) (enc : TypeId × Value → H) :
    ReturnsInHanded {} Tryd.checked os 4 .any (fun w args => (Rows.claimLinesSpec.pre enc Tryd.prog Tryd.f4 [] false w args ∧ laidMetH Tryd.prog laidL w) ∧ sizedMet enc Tryd.prog Tryd.f4 (OpenSpec.ofChange Rows.claimLinesSpec) false w args) (Rows.claimLinesSpec.post enc Tryd.prog Tryd.f4 false true false false) := by
  refine lift own started (by kernel_rfl) Tryd.func4
    (ChangeSpec.witness_shaped (enc := enc) (C := Tryd.checked) (os := os) (X := fun w _ => laidMetH Tryd.prog laidL w) false (World.laidAll Tryd.prog os laidL) #[.agg #[.string ByteArray.empty, .slice none 0 0, .int .i64 0, .int .i64 0, .int .i64 0, .int .i64 0], .string ByteArray.empty, .int .i64 0, .int .i64 0] 8 (World.laidAll_os _ _ _)
      (World.shaped_of_ZipB (by kernel_rfl) (by kernel_rfl)) (by kernel_rfl) (by kernel_rfl) (by kernel_rfl)
      (by rw [MakeChecks.laidMetH_plain _ _ _ (by kernel_rfl)]; exact laidMet_laidAll _ (by kernel_rfl) (by kernel_rfl))) ?_
  intro W base args ds gs before hval0 hW hwt hT
  have hval : ∀ (j : Nat) t v, Tryd.f4.params[j]? = some t → args[j]? = some v → Value.okWide Tryd.prog W .any base t v := hval0
  have hW' := hW
  obtain ⟨p, q, hA0, hV, rfl, hfz, hnd⟩ := hW
  have hA : DataW.TrodAll enc Tryd.prog W 0 (fun _ => true) true Tryd.f4.params.toList args.toList ds p := hA0
  rw [Tryd.params4] at hA hval hwt
  obtain ⟨v0, vs0, d0, ds0, p0, q0, hargs, rfl, rfl, h0, r0⟩ := trodAll_cons hA
  obtain ⟨v1, vs1, d1, ds1, p1, q1, rfl, rfl, rfl, h1, r1⟩ := trodAll_cons r0
  obtain ⟨v2, vs2, d2, ds2, p2, q2, rfl, rfl, rfl, h2, r2⟩ := trodAll_cons r1
  obtain ⟨v3, vs3, d3, ds3, p3, q3, rfl, rfl, rfl, h3, r3⟩ := trodAll_cons r2
  obtain ⟨rfl, rfl, rfl⟩ := trodAll_nil r3
  obtain rfl : args = #[v0, v1, v2, v3] := by cases args; simp_all
  obtain ⟨rfl, rfl⟩ := trodVars_none hV
  have hwl : ∀ z, (z ∈ d0.weights Tryd.prog 35 → z ≤ reachBytes) ∧ (z ∈ d1.weights Tryd.prog 9 → z ≤ reachBytes) ∧ (z ∈ d2.weights Tryd.prog 3 → z ≤ reachBytes) ∧ (z ∈ d3.weights Tryd.prog 3 → z ≤ reachBytes) := fun z => by
    have h := List.all_eq_true.1 hwt z
    simp only [decide_eq_true_eq] at h
    refine ⟨fun hz => h ?_, fun hz => h ?_, fun hz => h ?_, fun hz => h ?_⟩
    all_goals
      simp only [List.cons_append, List.nil_append, List.toList_toArray, List.append_nil, DataW.weightsEach, List.mem_append]
      simp [hz]
  have k0 := h0
  have lt0 : ∀ x ∈ p0, x.block < W.heap.size := by obtain ⟨m, hm⟩ := k0; exact DataW.trod_lt m _ _ _ hm
  obtain ⟨x0, m0, rfl, g0, z0⟩ := open_line (hval 0 35 v0 rfl rfl) h0 (fun z hz => (hwl z).1 hz)
  have k1 := h1
  have lt1 : ∀ x ∈ p1, x.block < W.heap.size := by obtain ⟨m, hm⟩ := k1; exact DataW.trod_lt m _ _ _ hm
  obtain ⟨a1, rfl, _, _, w1⟩ := open_string Tryd.underlying9 (hval 1 9 v1 rfl rfl) h1
  have k2 := h2
  have lt2 : ∀ x ∈ p2, x.block < W.heap.size := by obtain ⟨m, hm⟩ := k2; exact DataW.trod_lt m _ _ _ hm
  obtain ⟨a2, rfl, _, _, w2⟩ := open_int Tryd.underlying3 (hval 2 3 v2 rfl rfl) h2
  have k3 := h3
  have lt3 : ∀ x ∈ p3, x.block < W.heap.size := by obtain ⟨m, hm⟩ := k3; exact DataW.trod_lt m _ _ _ hm
  obtain ⟨a3, rfl, _, _, w3⟩ := open_int Tryd.underlying3 (hval 3 3 v3 rfl rfl) h3
  clear hA0 hval0
  refine (walk W x0 m0 g0 z0 a1 w1 a2 w2 a3 w3 hT).mono fun e W' ⟨he, bel⟩ => ?_
  subst he
  exact ⟨_, rfl, _, _, _, [], _, [], hW', (trodAll_cons_mk (shut_bool Tryd.underlying4 _) trodAll_mk0), (trodAll_cons_mk (Below.trod laidOut (by kernel_rfl) (of_decide_eq_true (by kernel_rfl)) k0 bel lt0) (trodAll_cons_mk (Below.trod laidOut (by kernel_rfl) (of_decide_eq_true (by kernel_rfl)) k1 bel lt1) (trodAll_cons_mk (Below.trod laidOut (by kernel_rfl) (of_decide_eq_true (by kernel_rfl)) k2 bel lt2) (trodAll_cons_mk (Below.trod laidOut (by kernel_rfl) (of_decide_eq_true (by kernel_rfl)) k3 bel lt3) trodAll_mk0)))), rfl, bel.frame _, fun h => by cases h⟩

theorem over : Rows.claimLinesRow.holds Tryd.pinned (OpenSpec.ofChange Rows.claimLinesSpec) :=
  OpenClaim.holds_of_wide 4 Tryd.f4 rfl rfl rfl rfl rfl rfl rfl ⟨rfl, rfl, rfl, rfl, rfl⟩ rfl rfl rfl rfl rfl (by kernel_rfl) Tryd.func4 (by kernel_rfl)
    (of_decide_eq_true (by kernel_rfl)) (by unfold Func.isWrapper; first | (rw [if_pos (by decide +kernel)]; kernel_rfl) | (rw [if_neg (by decide +kernel)]; exact ⟨rfl, rfl⟩))
    (fun os started H enc _ => lifted os started H enc)

/-- The row's statement. -/
theorem proved : Rows.ClaimLinesSaid := over
end Go.Proofs.YtpmlmoclocccoaaDoor.claimLines
namespace Go.Proofs.YtpmlmoclocccoaaDoor
theorem claimLines_holds : Rows.ClaimLinesCardSaid :=
  Claim7.holds_tied_plain_at .later [] [.data] true (true, "e0c6d56abecee78b69bbdfe67875128316fb25898fd5cc9334db5ddfe1891555") false
    claimLines.proved (fun _ h => by cases h) (by kernel_rfl) (fun _ h => by cases h) claimLines_row_tie rfl ⟨rfl, rfl⟩ (by kernel_rfl) rfl
    (fun f fn hf hfn => by
      obtain rfl : f = 4 := Option.some.inj ((show Tryd.prog.funcNamed "leechbook/leechbooklaw07.ClaimLines" = some 4 by kernel_rfl).symm.trans hf) |>.symm
      obtain rfl : fn = Tryd.f4 := (Option.some.inj (Tryd.func4.symm.trans hfn)).symm
      exact ⟨by kernel_rfl, fun j t ht => by
        rw [Tryd.params4] at ht
        have hm : t ∈ [35, 9, 3, 3] := by simpa using Array.mem_of_getElem? ht
        have hall : ([35, 9, 3, 3].all fun u => !Tryd.prog.wantsStandIn u) = true := by kernel_rfl
        exact (show Tryd.prog.wantsStandIn t = false by simpa using List.all_eq_true.1 hall t hm)⟩)
    (by kernel_rfl)
#print axioms claimLines_holds
end Go.Proofs.YtpmlmoclocccoaaDoor
