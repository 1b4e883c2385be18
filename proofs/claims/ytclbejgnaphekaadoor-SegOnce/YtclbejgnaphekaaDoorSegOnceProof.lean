/-
  For every signs and every text: what a text's segments are written as is that text: the law returns true. The listed tables are tied to the program's text.
-/
import Derived.Test.YtclbejgnaphekaaDoorRows
import Derived.WalkKit
import Derived.ProofKit
import Derived.OpenShut
import Derived.ShutString
import Derived.Below
import Derived.Carry
import Derived.LaidMore
import Derived.Stop.Joined
import Derived.SevenTiedAt
import Derived.Test.YtclbejgnaphekaaDoorQWorks
import Derived.Test.YtclbejgnaphekaaDoorQOpen
import Derived.Test.YtclbejgnaphekaaDoorTie
import Derived.Test.YtclbejgnaphekaaDoorCards
namespace Go.Proofs.YtclbejgnaphekaaDoor.segOnce
open Go.ChangeShapes Go.WideShapes Go.ChangeAt Go.RowKit
open Go.ChangeMaps (open_string)
set_option linter.unusedVariables false
set_option linter.unusedSimpArgs false
attribute [local go_sem ↓] Go.wp_at_zero Go.wp_at_succ

theorem own : ownKnob Tryd.prog.godebug = none := by kernel_rfl

/-! ### the walk: the law returns true -/
set_option maxHeartbeats 2000000 in
theorem walk (w : World) (e0 p0 s0 : UInt8) (a1 : ByteArray) (w1 : a1.size ≤ maxLen) (hT : Tab w) :
    Calls Tryd.prog 7 #[dv e0 p0 s0, .string a1] w fun e w' => e = .returned (.bool true) ∧ Below w.heap.size w w' := by
  have HTb := Lib.hid hT
  have HSz := Lib.hid w1
  have HBa := Lib.hid (below_alloc w (.cells #[.int .u8 e0.toNat, .int .u8 p0.toNat, .int .u8 s0.toNat] 23))
  have HWk : Hid (∀ W, Below w.heap.size w W → Calls Tryd.prog 15 #[] W fun x w' => x = .returned (.bool true) ∧ Below W.heap.size W w') := fun W h => works_any W (tab_grw HTb.out h)
  unfold maxLen at w1
  clear hT
  by_cases h6 : 6000 < a1.size
  · have h6' : (6000 : Int) < (a1.size : Int) := by omega
    clear h6
    go_enter Tryd.func7, Tryd.ntmps7
    go_wp2_with (go_at_call 15; refine (HWk.out _ HBa.out).mono ?_; rintro x x1 ⟨rfl, hb⟩; have HB := Lib.hid (below_trans HBa.out hb); clear hb)
    go_ret
    exact ⟨rfl, HB.out⟩
  have h6' : ¬ (6000 : Int) < (a1.size : Int) := by omega
  have HSp := Lib.hid (split_any e0 p0 s0 a1 (w.alloc (.cells #[.int .u8 e0.toNat, .int .u8 p0.toNat, .int .u8 s0.toNat] 23)) (tab_grw HTb.out HBa.out) HSz.out)
  by_cases he : spE e0 p0 s0 a1.data.toList = 0
  · obtain ⟨o1, o2⟩ := once he
    have hln := ln_sp he
    have HWr := Lib.hid fun W u h => write_any e0 p0 s0 u (spV e0 p0 s0 a1.data.toList) W h (by rw [hln, ← Lib.size_eq]; omega)
    rw [(wr_good o1).1, (wr_good o1).2, o2, mk_of] at HWr
    rw [he] at HSp
    have HBX := Lib.hid (DBox.new w e0 p0 s0)
    clear he o1 o2 hln h6
    generalize spV e0 p0 s0 a1.data.toList = L at *
    go_enter Tryd.func7, Tryd.ntmps7
    go_wp2_with (first | (go_at_call 21; refine HSp.out.mono ?_; rintro x x1 ⟨⟨u, rfl, hsg⟩, hb⟩; have HSG := Lib.hid hsg; have HB1 := Lib.hid (below_trans HBa.out hb); obtain ⟨-, d0, d1, d2⟩ := DBox.grw HBX.out hb; clear hb hsg) | (go_at_call 17; refine (HWr.out _ _ HSG.out).mono ?_; rintro x x2 ⟨rfl, hb⟩; have HB2 := Lib.hid (below_trans HB1.out hb); clear hb) | (go_at_call 15; refine (HWk.out _ HB2.out).mono ?_; rintro x x3 ⟨rfl, hb⟩; have HB3 := Lib.hid (below_trans HB2.out hb); clear hb))
    go_ret
    exact ⟨rfl, HB3.out⟩
  · have hv := sp_bad he
    rw [hv] at HSp
    have heb : (spE e0 p0 s0 a1.data.toList != 0) = true := by simpa using he
    generalize spE e0 p0 s0 a1.data.toList = E at *
    clear hv he h6
    go_enter Tryd.func7, Tryd.ntmps7
    go_wp2_with (first | (go_at_call 21; refine HSp.out.mono ?_; rintro x x1 ⟨⟨u, rfl, hsg⟩, hb⟩; obtain ⟨aa, cc, rfl, -, -, -⟩ := hsg; have HB1 := Lib.hid (below_trans HBa.out hb); clear hb) | (go_at_call 15; refine (HWk.out _ HB1.out).mono ?_; rintro x x3 ⟨rfl, hb⟩; have HB3 := Lib.hid (below_trans HB1.out hb); clear hb))
    go_ret
    exact ⟨rfl, HB3.out⟩

/-! ### the row's step -/
theorem laidOut : laidOutB Tryd.prog = true := by kernel_rfl
set_option maxRecDepth 100000 in
theorem lifted (os : Os) (started : os.Started) (H : Type) (enc : TypeId × Value → H) :
    ReturnsInHanded {} Tryd.checked os 7 .any (fun w args => (Rows.segOnceSpec.pre enc Tryd.prog Tryd.f7 [] false w args ∧ laidMetH Tryd.prog laidL w) ∧ sizedMet enc Tryd.prog Tryd.f7 (OpenSpec.ofChange Rows.segOnceSpec) false w args) (Rows.segOnceSpec.post enc Tryd.prog Tryd.f7 false true false false) := by
  refine lift own started (by kernel_rfl) Tryd.func7
    (ChangeSpec.witness_shaped (enc := enc) (C := Tryd.checked) (os := os) (X := fun w _ => laidMetH Tryd.prog laidL w) false (World.laidAll Tryd.prog os laidL) #[.agg #[.int .u8 0, .int .u8 0, .int .u8 0], .string ByteArray.empty] 8 (World.laidAll_os _ _ _)
      (World.shaped_of_ZipB (by kernel_rfl) (by kernel_rfl)) (by kernel_rfl) (by kernel_rfl) (by kernel_rfl)
      (by rw [MakeChecks.laidMetH_plain _ _ _ (by kernel_rfl)]; exact laidMet_laidAll _ (by kernel_rfl) (by kernel_rfl))) ?_
  intro W base args ds gs before hval0 hW hwt hT
  have hval : ∀ (j : Nat) t v, Tryd.f7.params[j]? = some t → args[j]? = some v → Value.okWide Tryd.prog W .any base t v := hval0
  have hW' := hW
  obtain ⟨p, q, hA0, hV, rfl, hfz, hnd⟩ := hW
  have hA : DataW.TrodAll enc Tryd.prog W 0 (fun _ => true) true Tryd.f7.params.toList args.toList ds p := hA0
  rw [Tryd.params7] at hA hval hwt
  obtain ⟨v0, vs0, d0, ds0, p0, q0, hargs, rfl, rfl, h0, r0⟩ := trodAll_cons hA
  obtain ⟨v1, vs1, d1, ds1, p1, q1, rfl, rfl, rfl, h1, r1⟩ := trodAll_cons r0
  obtain ⟨rfl, rfl, rfl⟩ := trodAll_nil r1
  obtain rfl : args = #[v0, v1] := by cases args; simp_all
  obtain ⟨rfl, rfl⟩ := trodVars_none hV
  have hwl : ∀ z, (z ∈ d0.weights Tryd.prog 23 → z ≤ reachBytes) ∧ (z ∈ d1.weights Tryd.prog 9 → z ≤ reachBytes) := fun z => by
    have h := List.all_eq_true.1 hwt z
    simp only [decide_eq_true_eq] at h
    refine ⟨fun hz => h ?_, fun hz => h ?_⟩
    all_goals
      simp only [List.cons_append, List.nil_append, List.toList_toArray, List.append_nil, DataW.weightsEach, List.mem_append]
      simp [hz]
  have k0 := h0
  have lt0 : ∀ x ∈ p0, x.block < W.heap.size := by obtain ⟨m, hm⟩ := k0; exact DataW.trod_lt m _ _ _ hm
  obtain ⟨e0, pp0, s0, rfl⟩ := open_delims (hval 0 23 v0 rfl rfl) h0
  have k1 := h1
  have lt1 : ∀ x ∈ p1, x.block < W.heap.size := by obtain ⟨m, hm⟩ := k1; exact DataW.trod_lt m _ _ _ hm
  obtain ⟨a1, rfl, _, _, w1⟩ := open_string Tryd.underlying9 (hval 1 9 v1 rfl rfl) h1
  clear hA0 hval0
  refine (walk W e0 pp0 s0 a1 w1 hT).mono fun e W' ⟨he, bel⟩ => ?_
  subst he
  exact ⟨_, rfl, _, _, _, [], _, [], hW', (trodAll_cons_mk (shut_bool Tryd.underlying4 _) trodAll_mk0), (trodAll_cons_mk (Below.trod laidOut (by kernel_rfl) (of_decide_eq_true (by kernel_rfl)) k0 bel lt0) (trodAll_cons_mk (Below.trod laidOut (by kernel_rfl) (of_decide_eq_true (by kernel_rfl)) k1 bel lt1) trodAll_mk0)), rfl, bel.frame _, fun h => by cases h⟩

theorem over : Rows.segOnceRow.holds Tryd.pinned (OpenSpec.ofChange Rows.segOnceSpec) :=
  OpenClaim.holds_of_wide 7 Tryd.f7 rfl rfl rfl rfl rfl rfl rfl ⟨rfl, rfl, rfl, rfl, rfl⟩ rfl rfl rfl rfl rfl (by kernel_rfl) Tryd.func7 (by kernel_rfl)
    (of_decide_eq_true (by kernel_rfl)) (by unfold Func.isWrapper; first | (rw [if_pos (by decide +kernel)]; kernel_rfl) | (rw [if_neg (by decide +kernel)]; exact ⟨rfl, rfl⟩))
    (fun os started H enc _ => lifted os started H enc)

/-- The row's statement. -/
theorem proved : Rows.SegOnceSaid := over
end Go.Proofs.YtclbejgnaphekaaDoor.segOnce
namespace Go.Proofs.YtclbejgnaphekaaDoor
theorem segOnce_holds : Rows.SegOnceCardSaid :=
  Claim7.holds_tied_plain_at .later [] [.data, .pinned] true (true, "2043d85c6e46d741d4fbbdc4b40907132dfcb425101b77815c72a7b1e469a79e") false
    segOnce.proved (fun _ h => by cases h) (by kernel_rfl) (fun _ h => by cases h) segOnce_row_tie rfl ⟨rfl, rfl⟩ (by kernel_rfl) rfl
    (fun f fn hf hfn => by
      obtain rfl : f = 7 := Option.some.inj ((show Tryd.prog.funcNamed "leechbook/leechbooklaw05.SegOnce" = some 7 by kernel_rfl).symm.trans hf) |>.symm
      obtain rfl : fn = Tryd.f7 := (Option.some.inj (Tryd.func7.symm.trans hfn)).symm
      exact ⟨by kernel_rfl, fun j t ht => by
        rw [Tryd.params7] at ht
        have hm : t ∈ [23, 9] := by simpa using Array.mem_of_getElem? ht
        have hall : ([23, 9].all fun u => !Tryd.prog.wantsStandIn u) = true := by kernel_rfl
        exact (show Tryd.prog.wantsStandIn t = false by simpa using List.all_eq_true.1 hall t hm)⟩)
    (by kernel_rfl)
#print axioms segOnce_holds
end Go.Proofs.YtclbejgnaphekaaDoor
