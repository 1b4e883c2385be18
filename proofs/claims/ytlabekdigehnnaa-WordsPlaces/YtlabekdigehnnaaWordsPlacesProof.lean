/-
  WordsPlaces holds for every text: each word stands in it where it is told to, behind the one ahead of it.
-/
import Derived.Test.YtlabekdigehnnaaRows
import Derived.WalkKit
import Derived.ProofKit
import Derived.OpenShut
import Derived.ShutString
import Derived.Below
import Derived.Carry
import Derived.Laws.Cover2
import Derived.Test.YtlabekdigehnnaaWJoin
import Derived.Test.YtlabekdigehnnaaWLaws
namespace Go.Proofs.Ytlabekdigehnnaa.wordsPlaces
open Go.ChangeShapes Go.WideShapes Go.ChangeAt Go.RowKit
open Go.ChangeMaps (open_string)
open Go.Proofs.Ytlabekdigehnnaa.Wo
set_option linter.unusedVariables false

theorem own : ownKnob Try.prog.godebug = none := by kernel_rfl

/-! ### the walk: the law returns true -/
set_option maxHeartbeats 4000000 in
theorem walk (w : World) (a0 : ByteArray) (w0 : a0.size ≤ maxLen) :
    Calls Try.prog 5 #[.string a0] w fun e w' => e = .returned (.bool true) ∧ Below w.heap.size w w' := by
  have HWK := Lib.hid works_any
  have HL : Hid (a0.data.toList.length = a0.size) := (Lib.size_eq a0).symm
  by_cases hl : 5000 < a0.size
  · have hl' : (5000 : Int) < (a0.size : Int) := by omega
    clear hl
    go_enter Try.func5, Try.ntmps5
    go_wp2_with (go_at_call 8; refine (HWK.out _).mono ?_; rintro e w1 ⟨rfl, hb⟩; have HB := Lib.hid hb; clear hb)
    go_ret
    exact ⟨rfl, HB.out⟩
  have hl' : ¬ (5000 : Int) < (a0.size : Int) := by omega
  have hsz : a0.size ≤ 5000 := by omega
  clear hl
  have HS := Lib.hid (fun W => split_any a0 W w0)
  cases hg : good a0.data.toList
  · obtain ⟨e1, e2, e3⟩ := sp_fault (l := a0.data.toList) (by rw [HL.out]; omega) hg
    rw [HL.out] at e3
    rw [e1, e2] at HS
    generalize Wo.spA a0.data.toList = A at *
    have hA : (A : Int) < (a0.size : Int) := by omega
    clear hg e1 e2 e3
    go_enter Try.func5, Try.ntmps5
    go_wp2_with (first | (go_at_call 9; refine (HS.out _).mono ?_; rintro e w1 ⟨⟨u1, rfl, hu1⟩, hb1⟩; have HB1 := Lib.hid hb1; obtain ⟨la, lc, rfl, -, -⟩ := WdsAt.form hu1; clear hb1 hu1) | (go_at_call 8; refine (HWK.out _).mono ?_; rintro e w6 ⟨rfl, hb6⟩; have HB6 := Lib.hid (below_trans HB1.out (below_trans (below_alloc w1 _) hb6)); clear hb6))
    go_ret
    exact ⟨rfl, HB6.out⟩
  obtain ⟨e1, e2⟩ := sp_fine (l := a0.data.toList) (by rw [HL.out]; omega) hg
  have HPL := Lib.hid (places a0.data.toList a0.data.toList 0 rfl)
  have hvl := wds_len a0.data.toList 0
  rw [HL.out] at hvl
  rw [e1, e2] at HS
  generalize wds 0 a0.data.toList = V at *
  have hvl2 : V.length ≤ 5000 := by omega
  clear hg e1 e2 hvl
  go_enter Try.func5, Try.ntmps5
  go_wp2_with (go_at_call 9; refine (HS.out _).mono ?_; rintro e w1 ⟨⟨u1, rfl, hu1⟩, hb1⟩; have HB1 := Lib.hid (below_trans hb1 (below_alloc w1 (.cells #[.int .i64 0, .int .i64 (Wo.spA a0.data.toList : Nat)] 26))); have HU1 := Lib.hid (WdsAt.move hu1 (K' := All) (Moves.trans (moves_weak w1 fun _ _ _ => trivial) (Below.moves (below_alloc w1 (.cells #[.int .i64 0, .int .i64 (Wo.spA a0.data.toList : Nat)] 26))))); obtain ⟨la, lc, rfl, -, -⟩ := WdsAt.form hu1; clear hb1 hu1)
  clear hl'
  generalize w1.alloc (.cells #[.int .i64 0, .int .i64 (Wo.spA a0.data.toList : Nat)] 26) = w2 at *
  go_loopg [5, 6] (V.length) (fun g at' i wr => ∃ (k t : Nat), k ≤ V.length ∧ g = V.length - k ∧ at' = .int .i64 t ∧ i = .int .i64 k ∧ t ≤ 5000 ∧ Hid (PlOk a0.data.toList t (V.drop k)) ∧ Hid (Below w2.heap.size w2 wr))
  case atStart => exact ⟨0, 0, Nat.zero_le _, rfl, rfl, rfl, by omega, HPL.out, Below.refl _ _⟩
  case round =>
    obtain ⟨k, t, hk, hg, rfl, rfl, ht, HP, HB⟩ := hrel
    clear HPL HS
    by_cases hlt : k < V.length
    · obtain ⟨b, o, rfl, -, -, c1, c2⟩ := WdsAt.get (WdsAt.move HU1.out (Below.moves HB.out)) k hlt
      obtain ⟨f1, f2, f3, f4, f5⟩ := PlOk.at HP.out hlt
      rw [HL.out] at f3
      have hX : a0.extract V[k].2 (V[k].2 + (mk V[k].1).size) = mk V[k].1 := by
        rw [Lib.extract_eq, mk_size, show V[k].2 + V[k].1.length - V[k].2 = V[k].1.length by omega, f4]; rfl
      have hX0 : (mk V[k].1).size ≠ 0 := by rw [mk_size]; intro e; exact f2 (List.length_eq_zero_iff.1 e)
      rw [← mk_size V[k].1] at f3 f5
      have HF5 := Lib.hid f5
      generalize mk V[k].1 = X at *
      generalize V[k].2 = y at *
      have g1 : ¬ (y : Int) < (t : Int) := by omega
      have g2 : ((X.size : Int) == 0) = false := by rw [beq_eq_false_iff_ne]; omega
      have g3 : ¬ (a0.size : Int) < (y : Int) + (X.size : Int) := by omega
      have g4 : (y : Int) ≤ (y : Int) + (X.size : Int) := by omega
      have g5 : (y : Int) + (X.size : Int) ≤ (a0.size : Int) := by omega
      have g6 : 0 ≤ (y : Int) + (X.size : Int) := by omega
      clear f1 f2 f4 f5
      have HBa := Lib.hid (below_trans HB.out (below_alloc wr (.cells #[.string X, .int .i64 (y : Nat)] 34)))
      obtain ⟨p0, p1, -, -⟩ := box_two (heap_alloc_new wr (.cells #[.string X, .int .i64 (y : Nat)] 34))
      go_upto_region 11 with fail
      generalize wr.alloc (.cells #[.string X, .int .i64 (y : Nat)] 34) = wa at *
      go_quiet (fail)
      go_wp2
      go_roundg (V.length - (k + 1))
      case rel => exact ⟨k + 1, y + X.size, by omega, rfl, by go_num, by go_num, by omega, HF5.out, below_drewN HBa.out _⟩
      case measure => omega
    · go_wp2_with (go_at_call 8; refine (HWK.out _).mono ?_; rintro e w6 ⟨rfl, hb6⟩; have HB6 := Lib.hid (below_trans (below_trans HB1.out HB.out) hb6); clear hb6)
      go_ret
      exact ⟨rfl, HB6.out⟩

/-! ### the row's step -/
theorem laidOut : laidOutB Try.prog = true := by kernel_rfl
set_option maxRecDepth 100000 in
theorem lifted (os : Os) (started : os.Started) (H : Type) (enc : TypeId × Value → H) :
    ReturnsInHanded {} Try.checked os 5 .any (Rows.wordsPlacesSpec.pre6 enc Try.prog Try.f5 Rows.wordsPlacesRow.domain false) (Rows.wordsPlacesSpec.post enc Try.prog Try.f5 false true false false) := by
  refine returnsInHanded_of_change (C := Try.checked) own started (by kernel_rfl) Try.func5
    (ChangeSpec.witness6 (enc := enc) (C := Try.checked) false ⟨#[], #[.string ByteArray.empty], []⟩ 8 (by kernel_rfl) (by kernel_rfl) (by kernel_rfl) (by kernel_rfl)) ?_
  intro W base args ds gs before hval0 hW hcnd _
  have hval : ∀ (j : Nat) t v, Try.f5.params[j]? = some t → args[j]? = some v → Value.okWide Try.prog W .any base t v := hval0
  have hW' := hW
  obtain ⟨p, q, hA0, hV, rfl, hfz, hnd⟩ := hW
  have hA : DataW.TrodAll enc Try.prog W 0 (fun _ => true) true Try.f5.params.toList args.toList ds p := hA0
  rw [Try.params5] at hA hval
  obtain ⟨v0, vs0, d0, ds0, p0, q0, hargs, rfl, rfl, h0, r0⟩ := trodAll_cons hA
  obtain ⟨rfl, rfl, rfl⟩ := trodAll_nil r0
  obtain rfl : args = #[v0] := by cases args; simp_all
  obtain ⟨rfl, rfl⟩ := trodVars_none hV
  have k0 := h0
  have lt0 : ∀ x ∈ p0, x.block < W.heap.size := by obtain ⟨m, hm⟩ := k0; exact DataW.trod_lt m _ _ _ hm
  obtain ⟨a0, rfl, _, _, w0⟩ := open_string Try.underlying9 (hval 0 9 v0 rfl rfl) h0
  clear hA0 hval0
  refine (walk W a0 w0).mono fun e W' ⟨he, bel⟩ => ?_
  subst he
  exact ⟨_, rfl, _, _, _, [], _, [], hW', (trodAll_cons_mk (shut_bool Try.underlying4 _) trodAll_mk0), (trodAll_cons_mk (Below.trod laidOut (by kernel_rfl) (of_decide_eq_true (by kernel_rfl)) k0 bel lt0) trodAll_mk0), rfl, bel.frame _, fun h => by cases h⟩

theorem over : Rows.wordsPlacesRow.holds Try.pinned (OpenSpec.ofChange Rows.wordsPlacesSpec) :=
  OpenClaim.holds_of_wide 5 Try.f5 rfl rfl rfl rfl rfl rfl rfl ⟨rfl, rfl, rfl, rfl, rfl⟩ rfl rfl rfl rfl rfl (by kernel_rfl) Try.func5 (by kernel_rfl)
    (of_decide_eq_true (by kernel_rfl)) (by unfold Func.isWrapper; first | (rw [if_pos (by decide +kernel)]; kernel_rfl) | (rw [if_neg (by decide +kernel)]; exact ⟨rfl, rfl⟩))
    (fun os started H enc _ => lifted os started H enc)

/-- The statement. -/
theorem proved : Rows.WordsPlacesSaid := over
end Go.Proofs.Ytlabekdigehnnaa.wordsPlaces
namespace Go.Proofs.Ytlabekdigehnnaa
theorem wordsPlaces_holds : Rows.WordsPlacesSaid := wordsPlaces.proved
#print axioms wordsPlaces_holds
end Go.Proofs.Ytlabekdigehnnaa
