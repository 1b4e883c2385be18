/-
  TwiceMarks holds for all services: which of them were billed ahead is what the chapter says.
-/
import Derived.Test.YtmgjnjbiljpneaaRows
import Derived.WalkKit
import Derived.ProofKit
import Derived.OpenShut
import Derived.ShutString
import Derived.Below
import Derived.Carry
import Derived.Laws.Cover2
import Derived.HandedShaped
import Derived.Test.YtmgjnjbiljpneaaIWorks
import Derived.Test.YtmgjnjbiljpneaaIRMarks
import Derived.Test.YtmgjnjbiljpneaaIOpen
namespace Go.Proofs.Ytmgjnjbiljpneaa.twiceMarks
open Go.ChangeShapes Go.WideShapes Go.ChangeAt Go.RowKit
open Io
open Cm (Ln LnsAt lnv LnOk below_alloc below_trans)
open Tw
set_option linter.unusedVariables false
set_option linter.unusedSimpArgs false
set_option maxRecDepth 100000

theorem own : ownKnob Try.prog.godebug = none := by kernel_rfl

/-! ### the walk: the law returns true -/
set_option maxHeartbeats 16000000 in
theorem walk (w : World) (v0 : Value) (l0 : List Ln) (h0 : LnsAt All w v0 l0) (n0 : l0.length ≤ 281474976710656) (z0 : ∀ f ∈ l0, LnOk f) (v1 : Value) (l1 : List Ln) (h1 : LnsAt All w v1 l1) (n1 : l1.length ≤ 281474976710656) (z1 : ∀ f ∈ l1, LnOk f) :
    Calls Try.prog 4 #[v0, v1] w fun e w' => e = .returned (.bool true) ∧ Below w.heap.size w w' := by
  have HLt0 := Lib.hid fun W (hW : Below w.heap.size w W) => light_any v0 l0 W (LnsAt.move h0 (Below.moves hW)) z0 n0
  have HLt1 := Lib.hid fun W (hW : Below w.heap.size w W) => light_any v1 l1 W (LnsAt.move h1 (Below.moves hW)) z1 n1
  have HB0 := Lib.hid (Below.refl w.heap.size w)
  have HM0 := Lib.hid fun W (hW : Below w.heap.size w W) q q' p p' => marks_any v0 v1 l0 l1 W (LnsAt.move h0 (Below.moves hW)) (LnsAt.move h1 (Below.moves hW)) q q' p p'
  have HM1 := Lib.hid fun W (hW : Below w.heap.size w W) q q' p p' => rmarks_any v0 v1 l0 l1 W (LnsAt.move h0 (Below.moves hW)) (LnsAt.move h1 (Below.moves hW)) q q' p p'
  obtain ⟨a, c, rfl, f1, f2⟩ := Cm.LnsAt.form h0
  obtain ⟨aa, ca, rfl, g1, g2⟩ := Cm.LnsAt.form h1
  clear h0 h1 z0 z1
  go_enter Try.func4, Try.ntmps4
  go_wp2_with fail
  go_at_call 9
  refine (HLt0.out w HB0.out).mono ?_
  rintro e w1 ⟨⟨bl, rfl, hbl⟩, hb1⟩
  have HB1 := Lib.hid (below_trans HB0.out hb1)
  clear hb1
  cases bl with
  | false =>
    clear hbl
    go_wp2_with (go_at_call 10; refine (works_any _).mono ?_; rintro e w9 ⟨rfl, hb9⟩; have HB9 := Lib.hid (below_trans HB1.out hb9); clear hb9)
    go_ret
    exact ⟨rfl, HB9.out⟩
  | true =>
  obtain ⟨k0, k1⟩ := hbl rfl
  have HK0 := Lib.hid k1
  clear hbl k1
  go_wp2_with fail
  go_at_call 9
  refine (HLt1.out w1 HB1.out).mono ?_
  rintro e w2 ⟨⟨bl, rfl, hbl⟩, hb2⟩
  have HB2 := Lib.hid (below_trans HB1.out hb2)
  clear hb2
  cases bl with
  | false =>
    clear hbl
    go_wp2_with (go_at_call 10; refine (works_any _).mono ?_; rintro e w9 ⟨rfl, hb9⟩; have HB9 := Lib.hid (below_trans HB2.out hb9); clear hb9)
    go_ret
    exact ⟨rfl, HB9.out⟩
  | true =>
  obtain ⟨k2, k3⟩ := hbl rfl
  have HK1 := Lib.hid k3
  clear hbl k3
  go_wp2_with fail
  go_at_call 14
  refine (HM0.out w2 HB2.out HK0.out HK1.out (by omega) (by omega)).mono ?_
  rintro e w3 ⟨u3, rfl, hu3, hb3⟩
  have HB3 := Lib.hid (below_trans HB2.out hb3)
  go_wp2_with fail
  go_at_call 15
  refine (HM1.out w3 HB3.out HK0.out HK1.out (by omega) (by omega)).mono ?_
  rintro e w4 ⟨u4, rfl, hu4, hb4⟩
  have HB4 := Lib.hid (below_trans HB3.out hb4)
  go_wp2_with fail
  go_at_call 13
  refine (same_eq _ _ _ w4 (hu3.far hb4) hu4).mono ?_
  rintro e w5 ⟨rfl, hb5⟩
  have HB5 := Lib.hid (below_trans HB4.out hb5)
  clear hb3 hb4 hb5 hu3 hu4
  go_wp2_with (go_at_call 10; refine (works_any _).mono ?_; rintro e w9 ⟨rfl, hb9⟩; have HB9 := Lib.hid (below_trans HB5.out hb9); clear hb9)
  go_ret
  exact ⟨rfl, HB9.out⟩

/-! ### the row's step -/
theorem laidOut : laidOutB Try.prog = true := by kernel_rfl
theorem lifted (os : Os) (started : os.Started) (H : Type) (enc : TypeId × Value → H) :
    ReturnsInHanded {} Try.checked os 4 .any (Rows.twiceMarksSpec.pre6 enc Try.prog Try.f4 Rows.twiceMarksRow.domain false) (Rows.twiceMarksSpec.post enc Try.prog Try.f4 false true false false) := by
  refine returnsInHanded_of_change_shaped (C := Try.checked) own started (by kernel_rfl) Try.func4
    (ChangeSpec.witness6 (enc := enc) (C := Try.checked) false ⟨#[], #[.slice none 0 0, .slice none 0 0], []⟩ 8 (by kernel_rfl) (by kernel_rfl) (by kernel_rfl) (by kernel_rfl)) ?_
  intro W base args ds gs before hval0 hW hcnd hwt _ _
  have hval : ∀ (j : Nat) t v, Try.f4.params[j]? = some t → args[j]? = some v → Value.okWide Try.prog W .any base t v := hval0
  have hW' := hW
  obtain ⟨p, q, hA0, hV, rfl, hfz, hnd⟩ := hW
  have hA : DataW.TrodAll enc Try.prog W 0 (fun _ => true) true Try.f4.params.toList args.toList ds p := hA0
  rw [Try.params4] at hA hval hwt
  obtain ⟨v0, vs0, d0, ds0, p0, q0, hargs, rfl, rfl, h0, r0⟩ := trodAll_cons hA
  obtain ⟨v1, vs1, d1, ds1, p1, q1, rfl, rfl, rfl, h1, r1⟩ := trodAll_cons r0
  obtain ⟨rfl, rfl, rfl⟩ := trodAll_nil r1
  obtain rfl : args = #[v0, v1] := by cases args; simp_all
  obtain ⟨rfl, rfl⟩ := trodVars_none hV
  have hwl : ∀ z, (z ∈ d0.weights Try.prog 26 → z ≤ reachBytes) ∧ (z ∈ d1.weights Try.prog 26 → z ≤ reachBytes) := fun z => by
    have h := List.all_eq_true.1 hwt z
    simp only [decide_eq_true_eq] at h
    refine ⟨fun hz => h ?_, fun hz => h ?_⟩
    all_goals
      simp only [List.cons_append, List.nil_append, List.toList_toArray, List.append_nil, DataW.weightsEach, List.mem_append]
      first | exact Or.inl hz | exact Or.inr (Or.inl hz) | exact Or.inr (Or.inr (Or.inl hz)) | exact Or.inr (Or.inr (Or.inr (Or.inl hz))) | simp [hz]
  have k0 := h0
  have lt0 : ∀ x ∈ p0, x.block < W.heap.size := by obtain ⟨m, hm⟩ := k0; exact DataW.trod_lt m _ _ _ hm
  obtain ⟨l0, g0, n0, z0⟩ := open_lns (okWide_slice Try.underlying26 (hval 0 26 v0 rfl rfl)) h0 (fun z hz => (hwl z).1 hz)
  have k1 := h1
  have lt1 : ∀ x ∈ p1, x.block < W.heap.size := by obtain ⟨m, hm⟩ := k1; exact DataW.trod_lt m _ _ _ hm
  obtain ⟨l1, g1, n1, z1⟩ := open_lns (okWide_slice Try.underlying26 (hval 1 26 v1 rfl rfl)) h1 (fun z hz => (hwl z).2 hz)
  clear hA0 hval0
  refine (walk W v0 l0 g0 n0 z0 v1 l1 g1 n1 z1).mono fun e W' ⟨he, bel⟩ => ?_
  subst he
  exact ⟨_, rfl, _, _, _, [], _, [], hW', (trodAll_cons_mk (shut_bool Try.underlying4 _) trodAll_mk0), (trodAll_cons_mk (Below.trod laidOut (by kernel_rfl) (of_decide_eq_true (by kernel_rfl)) k0 bel lt0) (trodAll_cons_mk (Below.trod laidOut (by kernel_rfl) (of_decide_eq_true (by kernel_rfl)) k1 bel lt1) trodAll_mk0)), rfl, bel.frame _, fun h => by cases h⟩

theorem over : Rows.twiceMarksRow.holds Try.pinned (OpenSpec.ofChange Rows.twiceMarksSpec) :=
  OpenClaim.holds_of_wide 4 Try.f4 rfl rfl rfl rfl rfl rfl rfl ⟨rfl, rfl, rfl, rfl, rfl⟩ rfl rfl rfl rfl rfl (by kernel_rfl) Try.func4 (by kernel_rfl)
    (of_decide_eq_true (by kernel_rfl)) (by unfold Func.isWrapper; first | (rw [if_pos (by decide +kernel)]; kernel_rfl) | (rw [if_neg (by decide +kernel)]; exact ⟨rfl, rfl⟩))
    (fun os started H enc _ => lifted os started H enc)

/-- The statement. -/
theorem proved : Rows.TwiceMarksSaid := over
end Go.Proofs.Ytmgjnjbiljpneaa.twiceMarks
namespace Go.Proofs.Ytmgjnjbiljpneaa
theorem twiceMarks_holds : Rows.TwiceMarksSaid := twiceMarks.proved
#print axioms twiceMarks_holds
end Go.Proofs.Ytmgjnjbiljpneaa
