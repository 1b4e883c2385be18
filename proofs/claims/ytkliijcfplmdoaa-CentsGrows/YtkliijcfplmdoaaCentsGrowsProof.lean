/-
  For every three int64: a part of more is no less, of all comes all, of none none, and the law's own example stands: the law returns true; no condition.
-/
import Derived.Test.YtkliijcfplmdoaaRows
import Derived.WalkKit
import Derived.ProofKit
import Derived.OpenShut
import Derived.Test.YtkliijcfplmdoaaCScale0
import Derived.Test.YtkliijcfplmdoaaCGrown
import Derived.Test.YtkliijcfplmdoaaCParts
import Derived.ShutString
namespace Go.Proofs.Ytkliijcfplmdoaa.centsGrows
open Go.ChangeShapes Go.WideShapes Go.ChangeAt Go.RowKit
open Go.ChangeMaps (open_string shut_string)
set_option linter.unusedVariables false      -- a walk need not use every 'w<i>' (that an integer argument fits its kind)

theorem own : ownKnob Try.prog.godebug = none := by kernel_rfl

/-! ### STEP 1: THE WALK: the Go text returns true. 'Grown w w'': the world has at most new blocks (Derived/RowKit3.lean). Part the cases AHEAD of 'go_enter' where a test parts the walk; take each callee by a contract of your own. -/
theorem walk (a0 : Int) (a1 : Int) (a2 : Int) (w0 : (Lit.int .i64 a0).wf = true) (w1 : (Lit.int .i64 a1).wf = true) (w2 : (Lit.int .i64 a2).wf = true) (w : World) :
    Calls Try.prog 7 #[.int .i64 a0, .int .i64 a1, .int .i64 a2] w fun e w' => e = .returned (.bool true) ∧ Grown w w' := by
  rcases part_cases a0 a2 with ⟨h1, h2, h3⟩ | ⟨h1, h2, h3, h4, h5, h6, h7⟩
  · clear h2 h3
    go_enter Try.func7, Try.ntmps7
    go_wp2_with (first | (go_at_call 20; refine (part_any _ _ _).mono ?_; rintro e w' ⟨rfl, k, rfl⟩) | (go_at_call 15; refine (works_any _).mono ?_; rintro e w' ⟨rfl, k, rfl⟩))
    go_ret
    exact ⟨rfl, grown_drewN _ _⟩
  · rcases part_cases a1 a2 with ⟨g1, g2, g3⟩ | ⟨g1, g2, g3, g4, g5, g6, g7⟩
    · clear g2 g3 h2 h3 h4 h5 h6 h7
      go_enter Try.func7, Try.ntmps7
      go_wp2_with (first | (go_at_call 20; refine (part_any _ _ _).mono ?_; rintro e w' ⟨rfl, k, rfl⟩) | (go_at_call 15; refine (works_any _).mono ?_; rintro e w' ⟨rfl, k, rfl⟩))
      go_ret
      exact ⟨rfl, grown_drewN _ _⟩
    · have m1 : a0 ≤ a1 → partV a0 a2 ≤ partV a1 a2 := fun h => by rw [h2, g2]; exact part_mono a0 a1 a2 h4 h
      have m2 : a1 ≤ a0 → partV a1 a2 ≤ partV a0 a2 := fun h => by rw [h2, g2]; exact part_mono a1 a0 a2 h4 h
      have f1 : partE a0 10000 = 0 ∧ partV a0 10000 = a0 := by
        rcases part_cases a0 10000 with ⟨_, _, k3⟩ | ⟨k1, k2, _⟩
        · exact absurd ⟨h3, by omega, by omega⟩ k3
        · exact ⟨k1, by rw [k2]; omega⟩
      have f2 : partE a0 0 = 0 ∧ partV a0 0 = 0 := by
        rcases part_cases a0 0 with ⟨_, _, k3⟩ | ⟨k1, k2, _⟩
        · exact absurd ⟨h3, by omega, by omega⟩ k3
        · exact ⟨k1, by rw [k2]; omega⟩
      obtain ⟨f1, f3⟩ := f1
      obtain ⟨f2, f4⟩ := f2
      clear h2 g2 h3 g3 h4 h5 g4 g5 h6 h7 g6 g7
      rcases Int.lt_trichotomy a0 a1 with c | c | c
      · have m := m1 (by omega)
        clear m1 m2
        have c1 : a0 ≤ a1 := by omega
        have c2 : ¬ a1 ≤ a0 := by omega
        have c3 : ¬ partV a1 a2 < partV a0 a2 := by omega
        clear c m
        go_enter Try.func7, Try.ntmps7
        go_wp2_with (first | (go_at_call 20; refine (part_any _ _ _).mono ?_; rintro e w' ⟨rfl, k, rfl⟩) | (go_at_call 15; refine (works_any _).mono ?_; rintro e w' ⟨rfl, k, rfl⟩))
        go_ret
        exact ⟨rfl, grown_drewN _ _⟩
      · subst c
        clear m1 m2
        go_enter Try.func7, Try.ntmps7
        go_wp2_with (first | (go_at_call 20; refine (part_any _ _ _).mono ?_; rintro e w' ⟨rfl, k, rfl⟩) | (go_at_call 15; refine (works_any _).mono ?_; rintro e w' ⟨rfl, k, rfl⟩))
        go_ret
        exact ⟨rfl, grown_drewN _ _⟩
      · have m := m2 (by omega)
        clear m1 m2
        have c1 : a1 ≤ a0 := by omega
        have c2 : ¬ a0 ≤ a1 := by omega
        have c3 : ¬ partV a0 a2 < partV a1 a2 := by omega
        clear c m
        go_enter Try.func7, Try.ntmps7
        go_wp2_with (first | (go_at_call 20; refine (part_any _ _ _).mono ?_; rintro e w' ⟨rfl, k, rfl⟩) | (go_at_call 15; refine (works_any _).mono ?_; rintro e w' ⟨rfl, k, rfl⟩))
        go_ret
        exact ⟨rfl, grown_drewN _ _⟩

/-! ### THE ROW's STEP: WRITTEN OUT: LEAVE IT -/
set_option maxRecDepth 100000 in
theorem lifted (os : Os) (started : os.Started) (H : Type) (enc : TypeId × Value → H) :
    ReturnsInHanded {} Try.checked os 7 .any (Rows.centsGrowsSpec.pre6 enc Try.prog Try.f7 Rows.centsGrowsRow.domain false) (Rows.centsGrowsSpec.post enc Try.prog Try.f7 false true false false) := by
  refine returnsInHanded_of_change (C := Try.checked) own started (by kernel_rfl) Try.func7
    (ChangeSpec.witness6 (enc := enc) (C := Try.checked) false ⟨#[], #[.int .i64 0, .int .i64 0, .int .i64 0], []⟩ 8 (by kernel_rfl) (by kernel_rfl) (by kernel_rfl) (by kernel_rfl)) ?_
  intro W base args ds gs before hval0 hW hcnd _
  have hval : ∀ (j : Nat) t v, Try.f7.params[j]? = some t → args[j]? = some v → Value.okWide Try.prog W .any base t v := hval0
  have hW' := hW
  obtain ⟨p, q, hA0, hV, rfl, hfz, hnd⟩ := hW
  have hA : DataW.TrodAll enc Try.prog W 0 (fun _ => true) true Try.f7.params.toList args.toList ds p := hA0
  rw [Try.params7] at hA hval
  obtain ⟨v0, vs0, d0, ds0, p0, q0, hargs, rfl, rfl, h0, r0⟩ := trodAll_cons hA
  obtain ⟨v1, vs1, d1, ds1, p1, q1, rfl, rfl, rfl, h1, r1⟩ := trodAll_cons r0
  obtain ⟨v2, vs2, d2, ds2, p2, q2, rfl, rfl, rfl, h2, r2⟩ := trodAll_cons r1
  obtain ⟨rfl, rfl, rfl⟩ := trodAll_nil r2
  obtain rfl : args = #[v0, v1, v2] := by cases args; simp_all
  obtain ⟨rfl, rfl⟩ := trodVars_none hV
  obtain ⟨a0, rfl, rfl, rfl, w0⟩ := open_int Try.underlying2 (hval 0 2 v0 rfl rfl) h0
  obtain ⟨a1, rfl, rfl, rfl, w1⟩ := open_int Try.underlying2 (hval 1 2 v1 rfl rfl) h1
  obtain ⟨a2, rfl, rfl, rfl, w2⟩ := open_int Try.underlying2 (hval 2 2 v2 rfl rfl) h2
  clear hA0 hval0
  simp only [List.append_nil] at hW'
  refine (walk a0 a1 a2 w0 w1 w2 W).mono fun e W' ⟨he, hg⟩ => ?_
  subst he
  exact ⟨_, rfl, post_of_same (pa := []) (pv := []) hW' (fun _ _ _ => (trodAll_cons_mk (shut_bool Try.underlying4 _) trodAll_mk0)) (fun sp _ => (trodAll_cons_mk (shut_int Try.underlying2 w0) (trodAll_cons_mk (shut_int Try.underlying2 w1) (trodAll_cons_mk (shut_int Try.underlying2 w2) trodAll_mk0)))) (fun _ _ => rfl) rfl
    (hg.frame _) hg.2.1 (ok_one (by kernel_rfl) rfl (okWide_bool_mk Try.underlying4 _))⟩

theorem over : Rows.centsGrowsRow.holds Try.pinned (OpenSpec.ofChange Rows.centsGrowsSpec) :=
  OpenClaim.holds_of_wide 7 Try.f7 rfl rfl rfl rfl rfl rfl rfl ⟨rfl, rfl, rfl, rfl, rfl⟩ rfl rfl rfl rfl rfl (by kernel_rfl) Try.func7 (by kernel_rfl)
    (of_decide_eq_true (by kernel_rfl)) (by unfold Func.isWrapper; first | (rw [if_pos (by decide +kernel)]; kernel_rfl) | (rw [if_neg (by decide +kernel)]; exact ⟨rfl, rfl⟩))
    (fun os started H enc _ => lifted os started H enc)

/-- ████ THE STATEMENT ████ -/
theorem proved : Rows.CentsGrowsSaid :=
  over
end Go.Proofs.Ytkliijcfplmdoaa.centsGrows
namespace Go.Proofs.Ytkliijcfplmdoaa
theorem centsGrows_holds : Rows.CentsGrowsSaid := centsGrows.proved
#print axioms centsGrows_holds
end Go.Proofs.Ytkliijcfplmdoaa
