/-
  For every signs and every text: which segments the text is, or that it is none, is what the reference says: the law returns true. The listed tables are tied to the program's text.
-/
import Derived.Test.YtclbejgnaphekaaDoorRows
import Derived.WalkKit
import Derived.ProofKit
import Derived.OpenShut
import Derived.ShutString
import Derived.Below
import Derived.Carry
import Derived.LaidMore
import Derived.Stop.Joined
import Derived.SevenTiedAt
import Derived.Test.YtclbejgnaphekaaDoorQWorks
import Derived.Test.YtclbejgnaphekaaDoorQSame
import Derived.Test.YtclbejgnaphekaaDoorQRSplit
import Derived.Test.YtclbejgnaphekaaDoorQOpen
import Derived.Test.YtclbejgnaphekaaDoorTie
import Derived.Test.YtclbejgnaphekaaDoorCards
namespace Go.Proofs.YtclbejgnaphekaaDoor.segSplits
open Go.ChangeShapes Go.WideShapes Go.ChangeAt Go.RowKit
open Go.ChangeMaps (open_string)
set_option linter.unusedVariables false
set_option linter.unusedSimpArgs false
attribute [local go_sem ↓] Go.wp_at_zero Go.wp_at_succ

theorem own : ownKnob Tryd.prog.godebug = none := by kernel_rfl

/-! ### the walk: the law returns true -/
set_option maxHeartbeats 2000000 in
theorem walk (w : World) (e0 p0 s0 : UInt8) (a1 : ByteArray) (w1 : a1.size ≤ maxLen) (hT : Tab w) :
    Calls Tryd.prog 5 #[dv e0 p0 s0, .string a1] w fun e w' => e = .returned (.bool true) ∧ Below w.heap.size w w' := by
  have HTb := Lib.hid hT
  have HSz := Lib.hid w1
  have HB := Lib.hid (below_alloc w (.cells #[.int .u8 e0.toNat, .int .u8 p0.toNat, .int .u8 s0.toNat] 23))
  have HWk : Hid (∀ W, Below w.heap.size w W → Calls Tryd.prog 15 #[] W fun x w' => x = .returned (.bool true) ∧ Below W.heap.size W w') := fun W h => works_any W (tab_grw HTb.out h)
  unfold maxLen at w1
  clear hT
  by_cases h7 : 70000 < a1.size
  · have h7' : (70000 : Int) < (a1.size : Int) := by omega
    clear h7
    go_enter Tryd.func5, Tryd.ntmps5
    go_wp2_with (go_at_call 15; refine (HWk.out _ HB.out).mono ?_; rintro x x1 ⟨rfl, hb⟩; have HB1 := Lib.hid (below_trans HB.out hb); clear hb)
    go_ret
    exact ⟨rfl, HB1.out⟩
  have h7' : ¬ (70000 : Int) < (a1.size : Int) := by omega
  have HSp := Lib.hid fun W h => split_any e0 p0 s0 a1 W h HSz.out
  have HRSp := Lib.hid fun W => rsplit_any e0 p0 s0 a1 W HSz.out
  have HSa : Hid (∀ W u u' l, SgAt All W u l → SgAt All W u' l → Calls Tryd.prog 23 #[u, u'] W fun x w' => x = .returned (.bool true) ∧ Below W.heap.size W w') := fun W u u' l h1 h2 => (Same_any _ _ l l W h1 h2).mono fun x w' ⟨h, q, hq⟩ => ⟨by rw [h]; simp, by rw [hq]; exact below_drewN (Below.refl _ _) q⟩
  have HX : Hid (∀ W, Below (w.alloc (.cells #[.int .u8 e0.toNat, .int .u8 p0.toNat, .int .u8 s0.toNat] 23)).heap.size (w.alloc (.cells #[.int .u8 e0.toNat, .int .u8 p0.toNat, .int .u8 s0.toNat] 23)) W → (W.cell? ⟨w.heap.size, 0, none⟩ = some (.int .u8 e0.toNat) ∧ W.cell? ⟨w.heap.size, 1, none⟩ = some (.int .u8 p0.toNat) ∧ W.cell? ⟨w.heap.size, 2, none⟩ = some (.int .u8 s0.toNat)) ∧ Below w.heap.size w W) := fun W h => ⟨(DBox.grw (DBox.new w e0 p0 s0) h).2, below_trans HB.out h⟩
  generalize spE e0 p0 s0 a1.data.toList = E at *
  generalize spV e0 p0 s0 a1.data.toList = L at *
  clear h7
  go_enter Tryd.func5, Tryd.ntmps5
  go_wp2_with (first | (go_at_call 21; refine (HSp.out _ (tab_grw HTb.out HB.out)).mono ?_; rintro x x1 ⟨⟨u1, rfl, hsg⟩, hb⟩; have HS1 := Lib.hid hsg; have HC := Lib.hid hb; obtain ⟨⟨d0, d1, d2⟩, -⟩ := HX.out _ hb; clear hb hsg) | (go_at_call 22; refine (HRSp.out _).mono ?_; rintro x x2 ⟨⟨u2, rfl, hsg⟩, hb⟩; have HS2 := Lib.hid hsg; have HS1' := Lib.hid (SgAt.move HS1.out (Below.moves hb)); have HC2 := Lib.hid (HX.out _ (below_trans HC.out hb)).2; clear hb hsg) | (go_at_call 23; refine (HSa.out _ _ _ L HS1'.out HS2.out).mono ?_; rintro x x3 ⟨rfl, hb⟩; have HC3 := Lib.hid (below_trans HC2.out hb); clear hb) | (go_at_call 15; refine (HWk.out _ HC3.out).mono ?_; rintro x x4 ⟨rfl, hb⟩; have HC4 := Lib.hid (below_trans HC3.out hb); clear hb))
  go_ret
  exact ⟨rfl, HC4.out⟩

/-! ### the row's step -/
theorem laidOut : laidOutB Tryd.prog = true := by kernel_rfl
set_option maxRecDepth 100000 in
theorem lifted (os : Os) (started : os.Started) (H : Type) (enc : TypeId × Value → H) :
    ReturnsInHanded {} Tryd.checked os 5 .any (fun w args => (Rows.segSplitsSpec.pre enc Tryd.prog Tryd.f5 [] false w args ∧ laidMetH Tryd.prog laidL w) ∧ sizedMet enc Tryd.prog Tryd.f5 (OpenSpec.ofChange Rows.segSplitsSpec) false w args) (Rows.segSplitsSpec.post enc Tryd.prog Tryd.f5 false true false false) := by
  refine lift own started (by kernel_rfl) Tryd.func5
    (ChangeSpec.witness_shaped (enc := enc) (C := Tryd.checked) (os := os) (X := fun w _ => laidMetH Tryd.prog laidL w) false (World.laidAll Tryd.prog os laidL) #[.agg #[.int .u8 0, .int .u8 0, .int .u8 0], .string ByteArray.empty] 8 (World.laidAll_os _ _ _)
      (World.shaped_of_ZipB (by kernel_rfl) (by kernel_rfl)) (by kernel_rfl) (by kernel_rfl) (by kernel_rfl)
      (by rw [MakeChecks.laidMetH_plain _ _ _ (by kernel_rfl)]; exact laidMet_laidAll _ (by kernel_rfl) (by kernel_rfl))) ?_
  intro W base args ds gs before hval0 hW hwt hT
  have hval : ∀ (j : Nat) t v, Tryd.f5.params[j]? = some t → args[j]? = some v → Value.okWide Tryd.prog W .any base t v := hval0
  have hW' := hW
  obtain ⟨p, q, hA0, hV, rfl, hfz, hnd⟩ := hW
  have hA : DataW.TrodAll enc Tryd.prog W 0 (fun _ => true) true Tryd.f5.params.toList args.toList ds p := hA0
  rw [Tryd.params5] at hA hval hwt
  obtain ⟨v0, vs0, d0, ds0, p0, q0, hargs, rfl, rfl, h0, r0⟩ := trodAll_cons hA
  obtain ⟨v1, vs1, d1, ds1, p1, q1, rfl, rfl, rfl, h1, r1⟩ := trodAll_cons r0
  obtain ⟨rfl, rfl, rfl⟩ := trodAll_nil r1
  obtain rfl : args = #[v0, v1] := by cases args; simp_all
  obtain ⟨rfl, rfl⟩ := trodVars_none hV
  have hwl : ∀ z, (z ∈ d0.weights Tryd.prog 23 → z ≤ reachBytes) ∧ (z ∈ d1.weights Tryd.prog 9 → z ≤ reachBytes) := fun z => by
    have h := List.all_eq_true.1 hwt z
    simp only [decide_eq_true_eq] at h
    refine ⟨fun hz => h ?_, fun hz => h ?_⟩
    all_goals
      simp only [List.cons_append, List.nil_append, List.toList_toArray, List.append_nil, DataW.weightsEach, List.mem_append]
      simp [hz]
  have k0 := h0
  have lt0 : ∀ x ∈ p0, x.block < W.heap.size := by obtain ⟨m, hm⟩ := k0; exact DataW.trod_lt m _ _ _ hm
  obtain ⟨e0, pp0, s0, rfl⟩ := open_delims (hval 0 23 v0 rfl rfl) h0
  have k1 := h1
  have lt1 : ∀ x ∈ p1, x.block < W.heap.size := by obtain ⟨m, hm⟩ := k1; exact DataW.trod_lt m _ _ _ hm
  obtain ⟨a1, rfl, _, _, w1⟩ := open_string Tryd.underlying9 (hval 1 9 v1 rfl rfl) h1
  clear hA0 hval0
  refine (walk W e0 pp0 s0 a1 w1 hT).mono fun e W' ⟨he, bel⟩ => ?_
  subst he
  exact ⟨_, rfl, _, _, _, [], _, [], hW', (trodAll_cons_mk (shut_bool Tryd.underlying4 _) trodAll_mk0), (trodAll_cons_mk (Below.trod laidOut (by kernel_rfl) (of_decide_eq_true (by kernel_rfl)) k0 bel lt0) (trodAll_cons_mk (Below.trod laidOut (by kernel_rfl) (of_decide_eq_true (by kernel_rfl)) k1 bel lt1) trodAll_mk0)), rfl, bel.frame _, fun h => by cases h⟩

theorem over : Rows.segSplitsRow.holds Tryd.pinned (OpenSpec.ofChange Rows.segSplitsSpec) :=
  OpenClaim.holds_of_wide 5 Tryd.f5 rfl rfl rfl rfl rfl rfl rfl ⟨rfl, rfl, rfl, rfl, rfl⟩ rfl rfl rfl rfl rfl (by kernel_rfl) Tryd.func5 (by kernel_rfl)
    (of_decide_eq_true (by kernel_rfl)) (by unfold Func.isWrapper; first | (rw [if_pos (by decide +kernel)]; kernel_rfl) | (rw [if_neg (by decide +kernel)]; exact ⟨rfl, rfl⟩))
    (fun os started H enc _ => lifted os started H enc)

/-- The row's statement. -/
theorem proved : Rows.SegSplitsSaid := over
end Go.Proofs.YtclbejgnaphekaaDoor.segSplits
namespace Go.Proofs.YtclbejgnaphekaaDoor
theorem segSplits_holds : Rows.SegSplitsCardSaid :=
  Claim7.holds_tied_plain_at .later [] [.data, .pinned] true (true, "2043d85c6e46d741d4fbbdc4b40907132dfcb425101b77815c72a7b1e469a79e") false
    segSplits.proved (fun _ h => by cases h) (by kernel_rfl) (fun _ h => by cases h) segSplits_row_tie rfl ⟨rfl, rfl⟩ (by kernel_rfl) rfl
    (fun f fn hf hfn => by
      obtain rfl : f = 5 := Option.some.inj ((show Tryd.prog.funcNamed "leechbook/leechbooklaw05.SegSplits" = some 5 by kernel_rfl).symm.trans hf) |>.symm
      obtain rfl : fn = Tryd.f5 := (Option.some.inj (Tryd.func5.symm.trans hfn)).symm
      exact ⟨by kernel_rfl, fun j t ht => by
        rw [Tryd.params5] at ht
        have hm : t ∈ [23, 9] := by simpa using Array.mem_of_getElem? ht
        have hall : ([23, 9].all fun u => !Tryd.prog.wantsStandIn u) = true := by kernel_rfl
        exact (show Tryd.prog.wantsStandIn t = false by simpa using List.all_eq_true.1 hall t hm)⟩)
    (by kernel_rfl)
#print axioms segSplits_holds
end Go.Proofs.YtclbejgnaphekaaDoor
