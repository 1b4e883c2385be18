/-
  For every signs, kind, number and segments: the segments in an envelope, and whether the kind may be, are what the reference says: the law returns true. The listed tables are tied to the program's text.
-/
import Derived.Test.YtjidoificijcfaaDoorRows
import Derived.WalkKit
import Derived.ProofKit
import Derived.OpenShut
import Derived.ShutString
import Derived.Below
import Derived.Carry
import Derived.LaidMore
import Derived.Stop.Joined
import Derived.SevenTiedAt
import Derived.Test.YtjidoificijcfaaDoorKWorks
import Derived.Test.YtjidoificijcfaaDoorQLight
import Derived.Test.YtjidoificijcfaaDoorKRWrap
import Derived.Test.YtjidoificijcfaaDoorQOpen
import Derived.Test.YtjidoificijcfaaDoorTie
import Derived.Test.YtjidoificijcfaaDoorCards
namespace Go.Proofs.YtjidoificijcfaaDoor.coverWraps
open Go.ChangeShapes Go.WideShapes Go.ChangeAt Go.RowKit
open Go.ChangeMaps (open_string)
set_option linter.unusedVariables false
set_option linter.unusedSimpArgs false
attribute [local go_sem ↓] Go.wp_at_zero Go.wp_at_succ

theorem own : ownKnob Tryd.prog.godebug = none := by kernel_rfl

/-! ### the walk: the law returns true -/
set_option maxHeartbeats 2000000 in
theorem walk (w : World) (e0 p0 s0 : UInt8) (a1 : ByteArray) (w1 : a1.size ≤ maxLen) (a2 : Int) (w2 : (Lit.int .i64 a2).wf = true) (v3 : Value) (l3 : List Sg) (w3 : SgAt All w v3 l3) (z3 : ∀ g ∈ l3, ∀ ps ∈ g, ∀ x ∈ ps, x.length ≤ 281474976710656) (hT : Tab w) :
    Calls Tryd.prog 3 #[dv e0 p0 s0, .string a1, .int .i64 a2, v3] w fun e w' => e = .returned (.bool true) ∧ Below w.heap.size w w' := by
  have HTb := Lib.hid hT
  have hnb : -9223372036854775808 ≤ a2 ∧ a2 ≤ 9223372036854775807 := by simpa [Lit.wf, IntKind.min, IntKind.max, IntKind.signed, IntKind.bits] using w2
  obtain ⟨n0, n1⟩ := hnb
  have HB := Lib.hid (below_alloc w (.cells #[.int .u8 e0.toNat, .int .u8 p0.toNat, .int .u8 s0.toNat] 23))
  have HWk : Hid (∀ W, Below w.heap.size w W → Calls Tryd.prog 9 #[] W fun x w' => x = .returned (.bool true) ∧ Below W.heap.size W w') := fun W h => works_any W (tab_grw HTb.out h)
  have HSg : Hid (∀ W, Below w.heap.size w W → SgAt All W v3 l3) := fun W h => SgAt.move w3 (Below.moves h)
  have HLt := Lib.hid fun W h => light_any v3 l3 W h z3
  have HBX := Lib.hid (DBox.new w e0 p0 s0)
  have HK1 := Lib.hid fun W => kind_any a1 W
  have HK2 := Lib.hid fun W => rkind_any a1 W
  clear hT z3 w2
  obtain ⟨av, cv, rfl, -, -, -⟩ := w3
  go_enter Tryd.func3, Tryd.ntmps3
  go_upto_if 15 with (go_at_call 8; refine (HLt.out _ (HSg.out _ HB.out)).mono ?_; rintro x x1 ⟨⟨b, rfl, hln⟩, hw⟩; rw [hw]; clear hw; have HLN := Lib.hid hln; clear hln)
  cases b
  · go_wp2_with (go_at_call 9; refine (HWk.out _ HB.out).mono ?_; rintro x x3 ⟨rfl, hb⟩; have HB3 := Lib.hid (below_trans HB.out hb); clear hb)
    go_ret
    exact ⟨rfl, HB3.out⟩
  obtain ⟨hln, hll⟩ := HLN.out rfl
  clear HLN HLt
  have HW1 := Lib.hid fun W h hT => wrap_any e0 p0 s0 a1 a2 (.slice av l3.length cv) l3 W h hT n0 n1 (by omega) (by omega)
  have HW2 := Lib.hid fun W h => rwrap_any e0 p0 s0 a1 a2 (.slice av l3.length cv) l3 W h n0 n1 (by omega) (by omega)
  clear hln hll
  generalize mk (wpV e0 p0 s0 a1.data.toList a2 l3) = T at *
  generalize wpE e0 p0 s0 a1.data.toList a2 l3 = E at *
  generalize kindB a1.data.toList = kb at *
  go_wp2_with (first | (go_at_call 10; refine (HW1.out _ (HSg.out _ HB.out) (tab_grw HTb.out HB.out)).mono ?_; rintro x x2 ⟨rfl, hb⟩; have HB2 := Lib.hid (below_trans HB.out hb); obtain ⟨-, d0, d1, d2⟩ := DBox.grw HBX.out hb; clear hb) | (go_at_call 11; refine (HW2.out _ (HSg.out _ HB2.out)).mono ?_; rintro x x4 ⟨rfl, hb⟩; have HB4 := Lib.hid (below_trans HB2.out hb); clear hb) | (go_at_call 12; refine (HK1.out _).mono ?_; rintro x x5 ⟨rfl, hw⟩; rw [hw]; clear hw x5) | (go_at_call 13; refine (HK2.out _).mono ?_; rintro x x5 ⟨rfl, hw⟩; rw [hw]; clear hw x5) | (go_at_call 9; refine (HWk.out _ HB4.out).mono ?_; rintro x x3 ⟨rfl, hb⟩; have HB3 := Lib.hid (below_trans HB4.out hb); clear hb))
  go_ret
  exact ⟨rfl, HB3.out⟩

/-! ### the row's step -/
theorem laidOut : laidOutB Tryd.prog = true := by kernel_rfl
set_option maxRecDepth 100000 in
theorem lifted (os : Os) (started : os.Started) (H : Type) (enc : TypeId × Value → H) :
    ReturnsInHanded {} Tryd.checked os 3 .any (fun w args => (Rows.coverWrapsSpec.pre enc Tryd.prog Tryd.f3 [] false w args ∧ laidMetH Tryd.prog laidL w) ∧ sizedMet enc Tryd.prog Tryd.f3 (OpenSpec.ofChange Rows.coverWrapsSpec) false w args) (Rows.coverWrapsSpec.post enc Tryd.prog Tryd.f3 false true false false) := by
  refine lift own started (by kernel_rfl) Tryd.func3
    (ChangeSpec.witness_shaped (enc := enc) (C := Tryd.checked) (os := os) (X := fun w _ => laidMetH Tryd.prog laidL w) false (World.laidAll Tryd.prog os laidL) #[.agg #[.int .u8 0, .int .u8 0, .int .u8 0], .string ByteArray.empty, .int .i64 0, .slice none 0 0] 8 (World.laidAll_os _ _ _)
      (World.shaped_of_ZipB (by kernel_rfl) (by kernel_rfl)) (by kernel_rfl) (by kernel_rfl) (by kernel_rfl)
      (by rw [MakeChecks.laidMetH_plain _ _ _ (by kernel_rfl)]; exact laidMet_laidAll _ (by kernel_rfl) (by kernel_rfl))) ?_
  intro W base args ds gs before hval0 hW hwt hT
  have hval : ∀ (j : Nat) t v, Tryd.f3.params[j]? = some t → args[j]? = some v → Value.okWide Tryd.prog W .any base t v := hval0
  have hW' := hW
  obtain ⟨p, q, hA0, hV, rfl, hfz, hnd⟩ := hW
  have hA : DataW.TrodAll enc Tryd.prog W 0 (fun _ => true) true Tryd.f3.params.toList args.toList ds p := hA0
  rw [Tryd.params3] at hA hval hwt
  obtain ⟨v0, vs0, d0, ds0, p0, q0, hargs, rfl, rfl, h0, r0⟩ := trodAll_cons hA
  obtain ⟨v1, vs1, d1, ds1, p1, q1, rfl, rfl, rfl, h1, r1⟩ := trodAll_cons r0
  obtain ⟨v2, vs2, d2, ds2, p2, q2, rfl, rfl, rfl, h2, r2⟩ := trodAll_cons r1
  obtain ⟨v3, vs3, d3, ds3, p3, q3, rfl, rfl, rfl, h3, r3⟩ := trodAll_cons r2
  obtain ⟨rfl, rfl, rfl⟩ := trodAll_nil r3
  obtain rfl : args = #[v0, v1, v2, v3] := by cases args; simp_all
  obtain ⟨rfl, rfl⟩ := trodVars_none hV
  have hwl : ∀ z, (z ∈ d0.weights Tryd.prog 23 → z ≤ reachBytes) ∧ (z ∈ d1.weights Tryd.prog 9 → z ≤ reachBytes) ∧ (z ∈ d2.weights Tryd.prog 3 → z ≤ reachBytes) ∧ (z ∈ d3.weights Tryd.prog 24 → z ≤ reachBytes) := fun z => by
    have h := List.all_eq_true.1 hwt z
    simp only [decide_eq_true_eq] at h
    refine ⟨fun hz => h ?_, fun hz => h ?_, fun hz => h ?_, fun hz => h ?_⟩
    all_goals
      simp only [List.cons_append, List.nil_append, List.toList_toArray, List.append_nil, DataW.weightsEach, List.mem_append]
      simp [hz]
  have k0 := h0
  have lt0 : ∀ x ∈ p0, x.block < W.heap.size := by obtain ⟨m, hm⟩ := k0; exact DataW.trod_lt m _ _ _ hm
  obtain ⟨e0, pp0, s0, rfl⟩ := open_delims (hval 0 23 v0 rfl rfl) h0
  have k1 := h1
  have lt1 : ∀ x ∈ p1, x.block < W.heap.size := by obtain ⟨m, hm⟩ := k1; exact DataW.trod_lt m _ _ _ hm
  obtain ⟨a1, rfl, _, _, w1⟩ := open_string Tryd.underlying9 (hval 1 9 v1 rfl rfl) h1
  have k2 := h2
  have lt2 : ∀ x ∈ p2, x.block < W.heap.size := by obtain ⟨m, hm⟩ := k2; exact DataW.trod_lt m _ _ _ hm
  obtain ⟨a2, rfl, _, _, w2⟩ := open_int Tryd.underlying3 (hval 2 3 v2 rfl rfl) h2
  have k3 := h3
  have lt3 : ∀ x ∈ p3, x.block < W.heap.size := by obtain ⟨m, hm⟩ := k3; exact DataW.trod_lt m _ _ _ hm
  obtain ⟨l3, w3, z3⟩ := open_segs h3 (okWide_slice Tryd.underlying24 (hval 3 24 v3 rfl rfl)) (fun z hz => (hwl z).2.2.2 hz)
  clear hA0 hval0
  refine (walk W e0 pp0 s0 a1 w1 a2 w2 v3 l3 w3 z3 hT).mono fun e W' ⟨he, bel⟩ => ?_
  subst he
  exact ⟨_, rfl, _, _, _, [], _, [], hW', (trodAll_cons_mk (shut_bool Tryd.underlying4 _) trodAll_mk0), (trodAll_cons_mk (Below.trod laidOut (by kernel_rfl) (of_decide_eq_true (by kernel_rfl)) k0 bel lt0) (trodAll_cons_mk (Below.trod laidOut (by kernel_rfl) (of_decide_eq_true (by kernel_rfl)) k1 bel lt1) (trodAll_cons_mk (Below.trod laidOut (by kernel_rfl) (of_decide_eq_true (by kernel_rfl)) k2 bel lt2) (trodAll_cons_mk (Below.trod laidOut (by kernel_rfl) (of_decide_eq_true (by kernel_rfl)) k3 bel lt3) trodAll_mk0)))), rfl, bel.frame _, fun h => by cases h⟩

theorem over : Rows.coverWrapsRow.holds Tryd.pinned (OpenSpec.ofChange Rows.coverWrapsSpec) :=
  OpenClaim.holds_of_wide 3 Tryd.f3 rfl rfl rfl rfl rfl rfl rfl ⟨rfl, rfl, rfl, rfl, rfl⟩ rfl rfl rfl rfl rfl (by kernel_rfl) Tryd.func3 (by kernel_rfl)
    (of_decide_eq_true (by kernel_rfl)) (by unfold Func.isWrapper; first | (rw [if_pos (by decide +kernel)]; kernel_rfl) | (rw [if_neg (by decide +kernel)]; exact ⟨rfl, rfl⟩))
    (fun os started H enc _ => lifted os started H enc)

/-- The row's statement. -/
theorem proved : Rows.CoverWrapsSaid := over
end Go.Proofs.YtjidoificijcfaaDoor.coverWraps
namespace Go.Proofs.YtjidoificijcfaaDoor
theorem coverWraps_holds : Rows.CoverWrapsCardSaid :=
  Claim7.holds_tied_plain_at .later [] [.data, .data, .data, .data, .pinned] true (true, "2d2f9c332a5f6900600230bb8b72244ea9d178c45feadf0fb18f32c3500bf0bf") false
    coverWraps.proved (fun _ h => by cases h) (by kernel_rfl) (fun _ h => by cases h) coverWraps_row_tie rfl ⟨rfl, rfl⟩ (by kernel_rfl) rfl
    (fun f fn hf hfn => by
      obtain rfl : f = 3 := Option.some.inj ((show Tryd.prog.funcNamed "leechbook/leechbooklaw06.CoverWraps" = some 3 by kernel_rfl).symm.trans hf) |>.symm
      obtain rfl : fn = Tryd.f3 := (Option.some.inj (Tryd.func3.symm.trans hfn)).symm
      exact ⟨by kernel_rfl, fun j t ht => by
        rw [Tryd.params3] at ht
        have hm : t ∈ [23, 9, 3, 24] := by simpa using Array.mem_of_getElem? ht
        have hall : ([23, 9, 3, 24].all fun u => !Tryd.prog.wantsStandIn u) = true := by kernel_rfl
        exact (show Tryd.prog.wantsStandIn t = false by simpa using List.all_eq_true.1 hall t hm)⟩)
    (by kernel_rfl)
#print axioms coverWraps_holds
end Go.Proofs.YtjidoificijcfaaDoor
