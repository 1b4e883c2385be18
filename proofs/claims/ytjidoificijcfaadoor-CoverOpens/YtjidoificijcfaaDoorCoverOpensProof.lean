/-
  For every kind and text: what lies in it as an envelope, or what is wrong with it, is what the reference says: the law returns true. The listed tables are tied to the program's text.
-/
import Derived.Test.YtjidoificijcfaaDoorRows
import Derived.WalkKit
import Derived.ProofKit
import Derived.OpenShut
import Derived.ShutString
import Derived.Below
import Derived.Carry
import Derived.LaidMore
import Derived.Stop.Joined
import Derived.SevenTiedAt
import Derived.Test.YtjidoificijcfaaDoorKWorks
import Derived.Test.YtjidoificijcfaaDoorKROpen
import Derived.Test.YtjidoificijcfaaDoorQSame
import Derived.Test.YtjidoificijcfaaDoorQOpen
import Derived.Test.YtjidoificijcfaaDoorTie
import Derived.Test.YtjidoificijcfaaDoorCards
namespace Go.Proofs.YtjidoificijcfaaDoor.coverOpens
open Go.ChangeShapes Go.WideShapes Go.ChangeAt Go.RowKit
open Go.ChangeMaps (open_string)
set_option linter.unusedVariables false
set_option linter.unusedSimpArgs false
attribute [local go_sem ↓] Go.wp_at_zero Go.wp_at_succ

theorem own : ownKnob Tryd.prog.godebug = none := by kernel_rfl

/-! ### the walk: the law returns true -/
set_option maxHeartbeats 2000000 in
theorem walk (w : World) (a0 : ByteArray) (w0 : a0.size ≤ maxLen) (a1 : ByteArray) (w1 : a1.size ≤ maxLen) (hT : Tab w) :
    Calls Tryd.prog 4 #[.string a0, .string a1] w fun e w' => e = .returned (.bool true) ∧ Below w.heap.size w w' := by
  have HTb := Lib.hid hT
  have HSz := Lib.hid w1
  have HWk : Hid (∀ W, Below w.heap.size w W → Calls Tryd.prog 9 #[] W fun x w' => x = .returned (.bool true) ∧ Below W.heap.size W w') := fun W h => works_any W (tab_grw HTb.out h)
  have HE := Lib.hid (Below.refl w.heap.size w)
  unfold maxLen at w1
  clear hT
  by_cases h7 : 70000 < a1.size
  · have h7' : (70000 : Int) < (a1.size : Int) := by omega
    clear h7
    go_enter Tryd.func4, Tryd.ntmps4
    go_wp2_with (go_at_call 9; refine (HWk.out _ HE.out).mono ?_; rintro x x1 ⟨rfl, hb⟩; have HB := Lib.hid hb; clear hb)
    go_ret
    exact ⟨rfl, HB.out⟩
  have h7' : ¬ (70000 : Int) < (a1.size : Int) := by omega
  clear h7
  have ho1 := open_any a0 a1 w HTb.out HSz.out
  have ho2 := fun W => ropen_any a0 a1 W HSz.out
  generalize opN a0.data.toList a1.data.toList = N at *
  generalize opE a0.data.toList a1.data.toList = E at *
  generalize opD a0.data.toList a1.data.toList = D at *
  generalize opL a0.data.toList a1.data.toList = L at *
  obtain ⟨e, p, q⟩ := D
  have HO1 : Hid (Calls Tryd.prog 14 #[.string a0, .string a1] w fun x w' => (∃ u, x = .returned (.tuple #[.agg #[.int .u8 e.toNat, .int .u8 p.toNat, .int .u8 q.toNat], .int .i64 N, u, .int .i64 E]) ∧ SgAt All w' u L) ∧ Below w.heap.size w w') := ho1
  have HO2 : Hid (∀ W, Calls Tryd.prog 15 #[.string a0, .string a1] W fun x w' => (∃ u, x = .returned (.tuple #[.agg #[.int .u8 e.toNat, .int .u8 p.toNat, .int .u8 q.toNat], .int .i64 N, u, .int .i64 E]) ∧ SgAt All w' u L) ∧ Below W.heap.size W w') := ho2
  clear ho1 ho2
  have HSa : Hid (∀ W u u', SgAt All W u L → SgAt All W u' L → Calls Tryd.prog 16 #[u, u'] W fun x w' => x = .returned (.bool true) ∧ Below W.heap.size W w') := fun W u u' h1 h2 => (Same_any _ _ L L W h1 h2).mono fun x w' ⟨h, q, hq⟩ => ⟨by rw [h]; simp, below_drewq ⟨q, hq⟩⟩
  have HA : Hid (∀ W : World, Below W.heap.size W (W.alloc (.cells #[.int .u8 e.toNat, .int .u8 p.toNat, .int .u8 q.toNat] 23))) := fun W => below_alloc W _
  have HN : Hid (∀ W : World, DBox (W.alloc (.cells #[.int .u8 e.toNat, .int .u8 p.toNat, .int .u8 q.toNat] 23)) W.heap.size e p q) := fun W => DBox.new W e p q
  go_enter Tryd.func4, Tryd.ntmps4
  go_wp2_with (first | (go_at_call 14; refine HO1.out.mono ?_; rintro x x1 ⟨⟨u, rfl, hsg⟩, hb⟩; have HS1 := Lib.hid (SgAt.move hsg (Below.moves (HA.out x1))); have HB1 := Lib.hid (below_trans hb (HA.out x1)); have HX1 := Lib.hid (HN.out x1); clear hb; obtain ⟨ua, uc, rfl, -, -, -⟩ := hsg) | (go_at_call 15; refine (HO2.out _).mono ?_; rintro x x2 ⟨⟨u2, rfl, hsg⟩, hb⟩; have HS2 := Lib.hid (SgAt.move hsg (Below.moves (HA.out x2))); have HS1b := Lib.hid (SgAt.move HS1.out (Below.moves (below_trans hb (HA.out x2)))); have HB2 := Lib.hid (below_trans HB1.out (below_trans hb (HA.out x2))); obtain ⟨-, d0, d1, d2⟩ := DBox.grw HX1.out (below_trans hb (HA.out x2)); clear hb; obtain ⟨va, vc, rfl, -, -, -⟩ := hsg) | (go_at_call 16; refine (HSa.out _ _ _ HS1b.out HS2.out).mono ?_; rintro x x4 ⟨rfl, hb⟩; have HB4 := Lib.hid (below_trans HB2.out hb); clear hb) | (go_at_call 9; refine (HWk.out _ HB4.out).mono ?_; rintro x x3 ⟨rfl, hb⟩; have HB3 := Lib.hid (below_trans HB4.out hb); clear hb))
  go_ret
  exact ⟨rfl, HB3.out⟩

/-! ### the row's step -/
theorem laidOut : laidOutB Tryd.prog = true := by kernel_rfl
set_option maxRecDepth 100000 in
theorem lifted (os : Os) (started : os.Started) (H : Type) (enc : TypeId × Value → H) :
    ReturnsInHanded {} Tryd.checked os 4 .any (fun w args => (Rows.coverOpensSpec.pre enc Tryd.prog Tryd.f4 [] false w args ∧ laidMetH Tryd.prog laidL w) ∧ sizedMet enc Tryd.prog Tryd.f4 (OpenSpec.ofChange Rows.coverOpensSpec) false w args) (Rows.coverOpensSpec.post enc Tryd.prog Tryd.f4 false true false false) := by
  refine lift own started (by kernel_rfl) Tryd.func4
    (ChangeSpec.witness_shaped (enc := enc) (C := Tryd.checked) (os := os) (X := fun w _ => laidMetH Tryd.prog laidL w) false (World.laidAll Tryd.prog os laidL) #[.string ByteArray.empty, .string ByteArray.empty] 8 (World.laidAll_os _ _ _)
      (World.shaped_of_ZipB (by kernel_rfl) (by kernel_rfl)) (by kernel_rfl) (by kernel_rfl) (by kernel_rfl)
      (by rw [MakeChecks.laidMetH_plain _ _ _ (by kernel_rfl)]; exact laidMet_laidAll _ (by kernel_rfl) (by kernel_rfl))) ?_
  intro W base args ds gs before hval0 hW hwt hT
  have hval : ∀ (j : Nat) t v, Tryd.f4.params[j]? = some t → args[j]? = some v → Value.okWide Tryd.prog W .any base t v := hval0
  have hW' := hW
  obtain ⟨p, q, hA0, hV, rfl, hfz, hnd⟩ := hW
  have hA : DataW.TrodAll enc Tryd.prog W 0 (fun _ => true) true Tryd.f4.params.toList args.toList ds p := hA0
  rw [Tryd.params4] at hA hval hwt
  obtain ⟨v0, vs0, d0, ds0, p0, q0, hargs, rfl, rfl, h0, r0⟩ := trodAll_cons hA
  obtain ⟨v1, vs1, d1, ds1, p1, q1, rfl, rfl, rfl, h1, r1⟩ := trodAll_cons r0
  obtain ⟨rfl, rfl, rfl⟩ := trodAll_nil r1
  obtain rfl : args = #[v0, v1] := by cases args; simp_all
  obtain ⟨rfl, rfl⟩ := trodVars_none hV
  have hwl : ∀ z, (z ∈ d0.weights Tryd.prog 9 → z ≤ reachBytes) ∧ (z ∈ d1.weights Tryd.prog 9 → z ≤ reachBytes) := fun z => by
    have h := List.all_eq_true.1 hwt z
    simp only [decide_eq_true_eq] at h
    refine ⟨fun hz => h ?_, fun hz => h ?_⟩
    all_goals
      simp only [List.cons_append, List.nil_append, List.toList_toArray, List.append_nil, DataW.weightsEach, List.mem_append]
      simp [hz]
  have k0 := h0
  have lt0 : ∀ x ∈ p0, x.block < W.heap.size := by obtain ⟨m, hm⟩ := k0; exact DataW.trod_lt m _ _ _ hm
  obtain ⟨a0, rfl, _, _, w0⟩ := open_string Tryd.underlying9 (hval 0 9 v0 rfl rfl) h0
  have k1 := h1
  have lt1 : ∀ x ∈ p1, x.block < W.heap.size := by obtain ⟨m, hm⟩ := k1; exact DataW.trod_lt m _ _ _ hm
  obtain ⟨a1, rfl, _, _, w1⟩ := open_string Tryd.underlying9 (hval 1 9 v1 rfl rfl) h1
  clear hA0 hval0
  refine (walk W a0 w0 a1 w1 hT).mono fun e W' ⟨he, bel⟩ => ?_
  subst he
  exact ⟨_, rfl, _, _, _, [], _, [], hW', (trodAll_cons_mk (shut_bool Tryd.underlying4 _) trodAll_mk0), (trodAll_cons_mk (Below.trod laidOut (by kernel_rfl) (of_decide_eq_true (by kernel_rfl)) k0 bel lt0) (trodAll_cons_mk (Below.trod laidOut (by kernel_rfl) (of_decide_eq_true (by kernel_rfl)) k1 bel lt1) trodAll_mk0)), rfl, bel.frame _, fun h => by cases h⟩

theorem over : Rows.coverOpensRow.holds Tryd.pinned (OpenSpec.ofChange Rows.coverOpensSpec) :=
  OpenClaim.holds_of_wide 4 Tryd.f4 rfl rfl rfl rfl rfl rfl rfl ⟨rfl, rfl, rfl, rfl, rfl⟩ rfl rfl rfl rfl rfl (by kernel_rfl) Tryd.func4 (by kernel_rfl)
    (of_decide_eq_true (by kernel_rfl)) (by unfold Func.isWrapper; first | (rw [if_pos (by decide +kernel)]; kernel_rfl) | (rw [if_neg (by decide +kernel)]; exact ⟨rfl, rfl⟩))
    (fun os started H enc _ => lifted os started H enc)

/-- The row's statement. -/
theorem proved : Rows.CoverOpensSaid := over
end Go.Proofs.YtjidoificijcfaaDoor.coverOpens
namespace Go.Proofs.YtjidoificijcfaaDoor
theorem coverOpens_holds : Rows.CoverOpensCardSaid :=
  Claim7.holds_tied_plain_at .later [] [.data, .data, .data, .data, .pinned] true (true, "2d2f9c332a5f6900600230bb8b72244ea9d178c45feadf0fb18f32c3500bf0bf") false
    coverOpens.proved (fun _ h => by cases h) (by kernel_rfl) (fun _ h => by cases h) coverOpens_row_tie rfl ⟨rfl, rfl⟩ (by kernel_rfl) rfl
    (fun f fn hf hfn => by
      obtain rfl : f = 4 := Option.some.inj ((show Tryd.prog.funcNamed "leechbook/leechbooklaw06.CoverOpens" = some 4 by kernel_rfl).symm.trans hf) |>.symm
      obtain rfl : fn = Tryd.f4 := (Option.some.inj (Tryd.func4.symm.trans hfn)).symm
      exact ⟨by kernel_rfl, fun j t ht => by
        rw [Tryd.params4] at ht
        have hm : t ∈ [9, 9] := by simpa using Array.mem_of_getElem? ht
        have hall : ([9, 9].all fun u => !Tryd.prog.wantsStandIn u) = true := by kernel_rfl
        exact (show Tryd.prog.wantsStandIn t = false by simpa using List.all_eq_true.1 hall t hm)⟩)
    (by kernel_rfl)
#print axioms coverOpens_holds
end Go.Proofs.YtjidoificijcfaaDoor
