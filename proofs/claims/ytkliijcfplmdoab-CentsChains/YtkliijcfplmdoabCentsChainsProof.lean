/-
  For every three int64: cents.Add comes to the same whichever two are put together first, and cents.Sub takes away again what was added; the law's own example stands: the law returns true; no condition.
-/
import Derived.Test.YtkliijcfplmdoabRows
import Derived.WalkKit
import Derived.ProofKit
import Derived.OpenShut
import Derived.Test.YtkliijcfplmdoabCScale0
import Derived.Test.YtkliijcfplmdoabCGrown
import Derived.ShutString
namespace Go.Proofs.Ytkliijcfplmdoab.centsChains
open Go.ChangeShapes Go.WideShapes Go.ChangeAt Go.RowKit
open Go.ChangeMaps (open_string shut_string)
set_option linter.unusedVariables false      -- a walk need not use every 'w<i>' (that an integer argument fits its kind)

theorem own : ownKnob Try.prog.godebug = none := by kernel_rfl

/-! ### STEP 1: THE WALK: the Go text returns true. 'Grown w w'': the world has at most new blocks (Derived/RowKit3.lean). Part the cases AHEAD of 'go_enter' where a test parts the walk; take each callee by a contract of your own. -/
theorem walk (a0 : Int) (a1 : Int) (a2 : Int) (w0 : (Lit.int .i64 a0).wf = true) (w1 : (Lit.int .i64 a1).wf = true) (w2 : (Lit.int .i64 a2).wf = true) (w : World) :
    Calls Try.prog 3 #[.int .i64 a0, .int .i64 a1, .int .i64 a2] w fun e w' => e = .returned (.bool true) ∧ Grown w w' := by
  by_cases h1 : good a0 = true ∧ good a1 = true ∧ good (a0 + a1) = true
  · by_cases h2 : good a1 = true ∧ good a2 = true ∧ good (a1 + a2) = true
    · obtain ⟨ga, gb, gx⟩ := h1
      obtain ⟨_, gc, gy⟩ := h2
      have x1 : addV a0 a1 = a0 + a1 := by simp [addV, ga, gb, gx]
      have x2 : addE a0 a1 = 0 := by simp [addE, ga, gb, gx]
      have y1 : addV a1 a2 = a1 + a2 := by simp [addV, gb, gc, gy]
      have y2 : addE a1 a2 = 0 := by simp [addE, gb, gc, gy]
      obtain ⟨ka0, ka1⟩ := (good_iff _).1 ga
      obtain ⟨kb0, kb1⟩ := (good_iff _).1 gb
      obtain ⟨kc0, kc1⟩ := (good_iff _).1 gc
      have z1 : subV (a0 + a1) a1 = a0 := by
        unfold subV; rw [if_pos ⟨gx, gb, by omega⟩]; omega
      have z2 : subE (a0 + a1) a1 = 0 := by
        unfold subE; rw [if_pos ⟨gx, gb⟩, if_pos (by omega)]
      have es : a0 + a1 + a2 = a0 + (a1 + a2) := Int.add_assoc ..
      have p1 : (addE (a0 + a1) a2 == addE a0 (a1 + a2)) = true := by
        unfold addE; rw [es]; simp [gx, gc, ga, gy]
      have p2 : (addV (a0 + a1) a2 == addV a0 (a1 + a2)) = true := by
        unfold addV; rw [es]; simp [gx, gc, ga, gy]
      clear es ga gb gx gc gy ka0 ka1 kb0 kb1 kc0 kc1
      go_enter Try.func3, Try.ntmps3
      go_wp2_with (first | (go_at_call 4; refine (add_any _ _ _).mono ?_; rintro e w' ⟨rfl, rfl⟩) | (go_at_call 6; refine (sub_any _ _ _).mono ?_; rintro e w' ⟨rfl, rfl⟩) | (go_at_call 5; refine (works_any _).mono ?_; rintro e w' ⟨rfl, k, rfl⟩))
      go_ret
      exact ⟨rfl, grown_drewN _ _⟩
    · have e : (addE a1 a2 == 0) = false := by
        have : addE a1 a2 ≠ 0 := by
          unfold addE
          split
          · split
            · exact absurd ⟨(by assumption : good a1 = true ∧ good a2 = true).1, (by assumption : good a1 = true ∧ good a2 = true).2, by assumption⟩ h2
            · omega
          · omega
        simpa using this
      have e2 : addE a0 a1 = 0 := by simp [addE, h1.1, h1.2.1, h1.2.2]
      clear h1 h2
      go_enter Try.func3, Try.ntmps3
      go_wp2_with (first | (go_at_call 4; refine (add_any _ _ _).mono ?_; rintro e w' ⟨rfl, rfl⟩) | (go_at_call 5; refine (works_any _).mono ?_; rintro e w' ⟨rfl, k, rfl⟩))
      go_ret
      exact ⟨rfl, grown_drewN _ _⟩
  · have e : (addE a0 a1 == 0) = false := by
      have : addE a0 a1 ≠ 0 := by
        unfold addE
        split
        · split
          · exact absurd ⟨(by assumption : good a0 = true ∧ good a1 = true).1, (by assumption : good a0 = true ∧ good a1 = true).2, by assumption⟩ h1
          · omega
        · omega
      simpa using this
    clear h1
    go_enter Try.func3, Try.ntmps3
    go_wp2_with (first | (go_at_call 4; refine (add_any _ _ _).mono ?_; rintro e w' ⟨rfl, rfl⟩) | (go_at_call 5; refine (works_any _).mono ?_; rintro e w' ⟨rfl, k, rfl⟩))
    go_ret
    exact ⟨rfl, grown_drewN _ _⟩

/-! ### THE ROW's STEP: WRITTEN OUT: LEAVE IT -/
set_option maxRecDepth 100000 in
theorem lifted (os : Os) (started : os.Started) (H : Type) (enc : TypeId × Value → H) :
    ReturnsInHanded {} Try.checked os 3 .any (Rows.centsChainsSpec.pre6 enc Try.prog Try.f3 Rows.centsChainsRow.domain false) (Rows.centsChainsSpec.post enc Try.prog Try.f3 false true false false) := by
  refine returnsInHanded_of_change (C := Try.checked) own started (by kernel_rfl) Try.func3
    (ChangeSpec.witness6 (enc := enc) (C := Try.checked) false ⟨#[], #[.int .i64 0, .int .i64 0, .int .i64 0], []⟩ 8 (by kernel_rfl) (by kernel_rfl) (by kernel_rfl) (by kernel_rfl)) ?_
  intro W base args ds gs before hval0 hW hcnd _
  have hval : ∀ (j : Nat) t v, Try.f3.params[j]? = some t → args[j]? = some v → Value.okWide Try.prog W .any base t v := hval0
  have hW' := hW
  obtain ⟨p, q, hA0, hV, rfl, hfz, hnd⟩ := hW
  have hA : DataW.TrodAll enc Try.prog W 0 (fun _ => true) true Try.f3.params.toList args.toList ds p := hA0
  rw [Try.params3] at hA hval
  obtain ⟨v0, vs0, d0, ds0, p0, q0, hargs, rfl, rfl, h0, r0⟩ := trodAll_cons hA
  obtain ⟨v1, vs1, d1, ds1, p1, q1, rfl, rfl, rfl, h1, r1⟩ := trodAll_cons r0
  obtain ⟨v2, vs2, d2, ds2, p2, q2, rfl, rfl, rfl, h2, r2⟩ := trodAll_cons r1
  obtain ⟨rfl, rfl, rfl⟩ := trodAll_nil r2
  obtain rfl : args = #[v0, v1, v2] := by cases args; simp_all
  obtain ⟨rfl, rfl⟩ := trodVars_none hV
  obtain ⟨a0, rfl, rfl, rfl, w0⟩ := open_int Try.underlying2 (hval 0 2 v0 rfl rfl) h0
  obtain ⟨a1, rfl, rfl, rfl, w1⟩ := open_int Try.underlying2 (hval 1 2 v1 rfl rfl) h1
  obtain ⟨a2, rfl, rfl, rfl, w2⟩ := open_int Try.underlying2 (hval 2 2 v2 rfl rfl) h2
  clear hA0 hval0
  simp only [List.append_nil] at hW'
  refine (walk a0 a1 a2 w0 w1 w2 W).mono fun e W' ⟨he, hg⟩ => ?_
  subst he
  exact ⟨_, rfl, post_of_same (pa := []) (pv := []) hW' (fun _ _ _ => (trodAll_cons_mk (shut_bool Try.underlying4 _) trodAll_mk0)) (fun sp _ => (trodAll_cons_mk (shut_int Try.underlying2 w0) (trodAll_cons_mk (shut_int Try.underlying2 w1) (trodAll_cons_mk (shut_int Try.underlying2 w2) trodAll_mk0)))) (fun _ _ => rfl) rfl
    (hg.frame _) hg.2.1 (ok_one (by kernel_rfl) rfl (okWide_bool_mk Try.underlying4 _))⟩

theorem over : Rows.centsChainsRow.holds Try.pinned (OpenSpec.ofChange Rows.centsChainsSpec) :=
  OpenClaim.holds_of_wide 3 Try.f3 rfl rfl rfl rfl rfl rfl rfl ⟨rfl, rfl, rfl, rfl, rfl⟩ rfl rfl rfl rfl rfl (by kernel_rfl) Try.func3 (by kernel_rfl)
    (of_decide_eq_true (by kernel_rfl)) (by unfold Func.isWrapper; first | (rw [if_pos (by decide +kernel)]; kernel_rfl) | (rw [if_neg (by decide +kernel)]; exact ⟨rfl, rfl⟩))
    (fun os started H enc _ => lifted os started H enc)

/-- ████ THE STATEMENT ████ -/
theorem proved : Rows.CentsChainsSaid :=
  over
end Go.Proofs.Ytkliijcfplmdoab.centsChains
namespace Go.Proofs.Ytkliijcfplmdoab
theorem centsChains_holds : Rows.CentsChainsSaid := centsChains.proved
#print axioms centsChains_holds
end Go.Proofs.Ytkliijcfplmdoab
