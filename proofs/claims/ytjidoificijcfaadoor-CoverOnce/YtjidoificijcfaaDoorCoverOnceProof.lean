/-
  For every kind and text: what is opened, put in an envelope again, is the text that it was: the law returns true. The listed tables are tied to the program's text.
-/
import Derived.Test.YtjidoificijcfaaDoorRows
import Derived.WalkKit
import Derived.ProofKit
import Derived.OpenShut
import Derived.ShutString
import Derived.Below
import Derived.Carry
import Derived.LaidMore
import Derived.Stop.Joined
import Derived.SevenTiedAt
import Derived.Test.YtjidoificijcfaaDoorKWorks
import Derived.Test.YtjidoificijcfaaDoorQOpen
import Derived.Test.YtjidoificijcfaaDoorTie
import Derived.Test.YtjidoificijcfaaDoorCards
namespace Go.Proofs.YtjidoificijcfaaDoor.coverOnce
open Go.ChangeShapes Go.WideShapes Go.ChangeAt Go.RowKit
open Go.ChangeMaps (open_string)
set_option linter.unusedVariables false
set_option linter.unusedSimpArgs false
attribute [local go_sem ↓] Go.wp_at_zero Go.wp_at_succ

theorem own : ownKnob Tryd.prog.godebug = none := by kernel_rfl

/-! ### the walk: the law returns true -/
set_option maxHeartbeats 2000000 in
theorem walk (w : World) (a0 : ByteArray) (w0 : a0.size ≤ maxLen) (a1 : ByteArray) (w1 : a1.size ≤ maxLen) (hT : Tab w) :
    Calls Tryd.prog 6 #[.string a0, .string a1] w fun e w' => e = .returned (.bool true) ∧ Below w.heap.size w w' := by
  have HTb := Lib.hid hT
  have HSz := Lib.hid w1
  have HWk : Hid (∀ W, Below w.heap.size w W → Calls Tryd.prog 9 #[] W fun x w' => x = .returned (.bool true) ∧ Below W.heap.size W w') := fun W h => works_any W (tab_grw HTb.out h)
  unfold maxLen at w1
  clear hT
  by_cases h6 : 6000 < a1.size
  · have h6' : (6000 : Int) < (a1.size : Int) := by omega
    have HE := Lib.hid (Below.refl w.heap.size w)
    clear h6
    go_enter Tryd.func6, Tryd.ntmps6
    go_wp2_with (go_at_call 9; refine (HWk.out _ HE.out).mono ?_; rintro x x1 ⟨rfl, hb⟩; have HB := Lib.hid hb; clear hb)
    go_ret
    exact ⟨rfl, HB.out⟩
  have h6' : ¬ (6000 : Int) < (a1.size : Int) := by omega
  have HOp := Lib.hid (open_any a0 a1 w HTb.out HSz.out)
  by_cases he : opE a0.data.toList a1.data.toList = 0
  · obtain ⟨o1, o2, _⟩ := cover_once he
    obtain ⟨_, _, n0, n1, hok, _, hv⟩ := wp_zero o1
    have hlo := wrT_len _ (wr_ok hok).2.2
    have hlen := congrArg List.length (hv.symm.trans o2)
    rw [List.length_append, headL_len, hlo, ← Lib.size_eq] at hlen
    have hll : (opL a0.data.toList a1.data.toList).length + 5 ≤ 4096 := by have := (wr_ok hok).2.1; rwa [abt_len] at this
    have hln : ln (opL a0.data.toList a1.data.toList) ≤ 90000 := by
      have : ln (abt a0.data.toList (opN a0.data.toList a1.data.toList) (opL a0.data.toList a1.data.toList)) = ln (fore a0.data.toList (Lib.itoa (opN a0.data.toList a1.data.toList))) + (ln (opL a0.data.toList a1.data.toList) + ln (aft (opL a0.data.toList a1.data.toList).length (Lib.itoa (opN a0.data.toList a1.data.toList)))) := by unfold abt; rw [ln_append, ln_append]
      omega
    have hwr := fun W u h hT => wrap_any (opD a0.data.toList a1.data.toList).1 (opD a0.data.toList a1.data.toList).2.1 (opD a0.data.toList a1.data.toList).2.2 a0 (opN a0.data.toList a1.data.toList) u (opL a0.data.toList a1.data.toList) W h hT (by omega) (by omega) (by omega) hln
    rw [o1, o2, mk_of] at hwr
    have HWr := Lib.hid hwr
    rw [he] at HOp
    clear hwr he o1 o2 hlo hlen hll hln h6 n0 n1 hok hv
    generalize opN a0.data.toList a1.data.toList = N at *
    generalize opL a0.data.toList a1.data.toList = L at *
    generalize opD a0.data.toList a1.data.toList = D at *
    obtain ⟨e, p, q⟩ := D
    have HOp2 : Hid (Calls Tryd.prog 14 #[.string a0, .string a1] w fun x w' => (∃ u, x = .returned (.tuple #[.agg #[.int .u8 e.toNat, .int .u8 p.toNat, .int .u8 q.toNat], .int .i64 N, u, .int .i64 0]) ∧ SgAt All w' u L) ∧ Below w.heap.size w w') := HOp.out
    have HWr2 : Hid (∀ W u, SgAt All W u L → Tab W → Calls Tryd.prog 10 #[dv e p q, .string a0, .int .i64 N, u] W fun x w' => x = .returned (.tuple #[.string a1, .int .i64 0]) ∧ Below W.heap.size W w') := HWr.out
    clear HOp HWr
    go_enter Tryd.func6, Tryd.ntmps6
    go_wp2_with (first | (go_at_call 14; refine HOp2.out.mono ?_; rintro x x1 ⟨⟨u, rfl, hsg⟩, hb⟩; have HSG := Lib.hid (SgAt.move hsg (Below.moves (below_alloc x1 (.cells #[.int .u8 e.toNat, .int .u8 p.toNat, .int .u8 q.toNat] 23)))); have HB1 := Lib.hid (below_trans hb (below_alloc x1 (.cells #[.int .u8 e.toNat, .int .u8 p.toNat, .int .u8 q.toNat] 23))); clear hb; obtain ⟨ua, uc, rfl, -, -, -⟩ := hsg) | (go_at_call 10; refine (HWr2.out _ _ HSG.out (tab_grw HTb.out HB1.out)).mono ?_; rintro x x2 ⟨rfl, hb⟩; have HB2 := Lib.hid (below_trans HB1.out hb); clear hb) | (go_at_call 9; refine (HWk.out _ HB2.out).mono ?_; rintro x x3 ⟨rfl, hb⟩; have HB3 := Lib.hid (below_trans HB2.out hb); clear hb))
    go_ret
    exact ⟨rfl, HB3.out⟩
  · obtain ⟨b1, b2, b3⟩ := op_bad he
    rw [b1, b2, b3] at HOp
    have heb : (opE a0.data.toList a1.data.toList != 0) = true := by simpa using he
    generalize opE a0.data.toList a1.data.toList = E at *
    have HOp2 : Hid (Calls Tryd.prog 14 #[.string a0, .string a1] w fun x w' => (∃ u, x = .returned (.tuple #[.agg #[.int .u8 0, .int .u8 0, .int .u8 0], .int .i64 0, u, .int .i64 E]) ∧ SgAt All w' u []) ∧ Below w.heap.size w w') := HOp.out
    clear HOp b1 b2 b3 he h6
    go_enter Tryd.func6, Tryd.ntmps6
    go_wp2_with (first | (go_at_call 14; refine HOp2.out.mono ?_; rintro x x1 ⟨⟨u, rfl, hsg⟩, hb⟩; obtain ⟨aa, cc, rfl, -, -, -⟩ := hsg; have HB1 := Lib.hid (below_trans hb (below_alloc x1 (.cells #[.int .u8 0, .int .u8 0, .int .u8 0] 23))); clear hb) | (go_at_call 9; refine (HWk.out _ HB1.out).mono ?_; rintro x x3 ⟨rfl, hb⟩; have HB3 := Lib.hid (below_trans HB1.out hb); clear hb))
    go_ret
    exact ⟨rfl, HB3.out⟩

/-! ### the row's step -/
theorem laidOut : laidOutB Tryd.prog = true := by kernel_rfl
set_option maxRecDepth 100000 in
theorem lifted (os : Os) (started : os.Started) (H : Type) (enc : TypeId × Value → H) :
    ReturnsInHanded {} Tryd.checked os 6 .any (fun w args => (Rows.coverOnceSpec.pre enc Tryd.prog Tryd.f6 [] false w args ∧ laidMetH Tryd.prog laidL w) ∧ sizedMet enc Tryd.prog Tryd.f6 (OpenSpec.ofChange Rows.coverOnceSpec) false w args) (Rows.coverOnceSpec.post enc Tryd.prog Tryd.f6 false true false false) := by
  refine lift own started (by kernel_rfl) Tryd.func6
    (ChangeSpec.witness_shaped (enc := enc) (C := Tryd.checked) (os := os) (X := fun w _ => laidMetH Tryd.prog laidL w) false (World.laidAll Tryd.prog os laidL) #[.string ByteArray.empty, .string ByteArray.empty] 8 (World.laidAll_os _ _ _)
      (World.shaped_of_ZipB (by kernel_rfl) (by kernel_rfl)) (by kernel_rfl) (by kernel_rfl) (by kernel_rfl)
      (by rw [MakeChecks.laidMetH_plain _ _ _ (by kernel_rfl)]; exact laidMet_laidAll _ (by kernel_rfl) (by kernel_rfl))) ?_
  intro W base args ds gs before hval0 hW hwt hT
  have hval : ∀ (j : Nat) t v, Tryd.f6.params[j]? = some t → args[j]? = some v → Value.okWide Tryd.prog W .any base t v := hval0
  have hW' := hW
  obtain ⟨p, q, hA0, hV, rfl, hfz, hnd⟩ := hW
  have hA : DataW.TrodAll enc Tryd.prog W 0 (fun _ => true) true Tryd.f6.params.toList args.toList ds p := hA0
  rw [Tryd.params6] at hA hval hwt
  obtain ⟨v0, vs0, d0, ds0, p0, q0, hargs, rfl, rfl, h0, r0⟩ := trodAll_cons hA
  obtain ⟨v1, vs1, d1, ds1, p1, q1, rfl, rfl, rfl, h1, r1⟩ := trodAll_cons r0
  obtain ⟨rfl, rfl, rfl⟩ := trodAll_nil r1
  obtain rfl : args = #[v0, v1] := by cases args; simp_all
  obtain ⟨rfl, rfl⟩ := trodVars_none hV
  have hwl : ∀ z, (z ∈ d0.weights Tryd.prog 9 → z ≤ reachBytes) ∧ (z ∈ d1.weights Tryd.prog 9 → z ≤ reachBytes) := fun z => by
    have h := List.all_eq_true.1 hwt z
    simp only [decide_eq_true_eq] at h
    refine ⟨fun hz => h ?_, fun hz => h ?_⟩
    all_goals
      simp only [List.cons_append, List.nil_append, List.toList_toArray, List.append_nil, DataW.weightsEach, List.mem_append]
      simp [hz]
  have k0 := h0
  have lt0 : ∀ x ∈ p0, x.block < W.heap.size := by obtain ⟨m, hm⟩ := k0; exact DataW.trod_lt m _ _ _ hm
  obtain ⟨a0, rfl, _, _, w0⟩ := open_string Tryd.underlying9 (hval 0 9 v0 rfl rfl) h0
  have k1 := h1
  have lt1 : ∀ x ∈ p1, x.block < W.heap.size := by obtain ⟨m, hm⟩ := k1; exact DataW.trod_lt m _ _ _ hm
  obtain ⟨a1, rfl, _, _, w1⟩ := open_string Tryd.underlying9 (hval 1 9 v1 rfl rfl) h1
  clear hA0 hval0
  refine (walk W a0 w0 a1 w1 hT).mono fun e W' ⟨he, bel⟩ => ?_
  subst he
  exact ⟨_, rfl, _, _, _, [], _, [], hW', (trodAll_cons_mk (shut_bool Tryd.underlying4 _) trodAll_mk0), (trodAll_cons_mk (Below.trod laidOut (by kernel_rfl) (of_decide_eq_true (by kernel_rfl)) k0 bel lt0) (trodAll_cons_mk (Below.trod laidOut (by kernel_rfl) (of_decide_eq_true (by kernel_rfl)) k1 bel lt1) trodAll_mk0)), rfl, bel.frame _, fun h => by cases h⟩

theorem over : Rows.coverOnceRow.holds Tryd.pinned (OpenSpec.ofChange Rows.coverOnceSpec) :=
  OpenClaim.holds_of_wide 6 Tryd.f6 rfl rfl rfl rfl rfl rfl rfl ⟨rfl, rfl, rfl, rfl, rfl⟩ rfl rfl rfl rfl rfl (by kernel_rfl) Tryd.func6 (by kernel_rfl)
    (of_decide_eq_true (by kernel_rfl)) (by unfold Func.isWrapper; first | (rw [if_pos (by decide +kernel)]; kernel_rfl) | (rw [if_neg (by decide +kernel)]; exact ⟨rfl, rfl⟩))
    (fun os started H enc _ => lifted os started H enc)

/-- The row's statement. -/
theorem proved : Rows.CoverOnceSaid := over
end Go.Proofs.YtjidoificijcfaaDoor.coverOnce
namespace Go.Proofs.YtjidoificijcfaaDoor
theorem coverOnce_holds : Rows.CoverOnceCardSaid :=
  Claim7.holds_tied_plain_at .later [] [.data, .data, .data, .data, .pinned] true (true, "2d2f9c332a5f6900600230bb8b72244ea9d178c45feadf0fb18f32c3500bf0bf") false
    coverOnce.proved (fun _ h => by cases h) (by kernel_rfl) (fun _ h => by cases h) coverOnce_row_tie rfl ⟨rfl, rfl⟩ (by kernel_rfl) rfl
    (fun f fn hf hfn => by
      obtain rfl : f = 6 := Option.some.inj ((show Tryd.prog.funcNamed "leechbook/leechbooklaw06.CoverOnce" = some 6 by kernel_rfl).symm.trans hf) |>.symm
      obtain rfl : fn = Tryd.f6 := (Option.some.inj (Tryd.func6.symm.trans hfn)).symm
      exact ⟨by kernel_rfl, fun j t ht => by
        rw [Tryd.params6] at ht
        have hm : t ∈ [9, 9] := by simpa using Array.mem_of_getElem? ht
        have hall : ([9, 9].all fun u => !Tryd.prog.wantsStandIn u) = true := by kernel_rfl
        exact (show Tryd.prog.wantsStandIn t = false by simpa using List.all_eq_true.1 hall t hm)⟩)
    (by kernel_rfl)
#print axioms coverOnce_holds
end Go.Proofs.YtjidoificijcfaaDoor
