/-
  WordsBrackets holds for every two texts: a bracket between them is a word by itself, and all others are theirs.
-/
import Derived.Test.YtlabekdigehnnaaRows
import Derived.WalkKit
import Derived.ProofKit
import Derived.OpenShut
import Derived.ShutString
import Derived.Below
import Derived.Carry
import Derived.Laws.Cover2
import Derived.Test.YtlabekdigehnnaaWJoin
import Derived.Test.YtlabekdigehnnaaWLaws
namespace Go.Proofs.Ytlabekdigehnnaa.wordsBrackets
open Go.ChangeShapes Go.WideShapes Go.ChangeAt Go.RowKit
open Go.ChangeMaps (open_string)
open Go.Proofs.Ytlabekdigehnnaa.Wo
set_option linter.unusedVariables false

theorem own : ownKnob Try.prog.godebug = none := by kernel_rfl

/-! ### the walk: the law returns true -/
set_option maxHeartbeats 4000000 in
theorem walk (w : World) (a0 : ByteArray) (w0 : a0.size ≤ maxLen) (a1 : ByteArray) (w1 : a1.size ≤ maxLen) :
    Calls Try.prog 7 #[.string a0, .string a1] w fun e w' => e = .returned (.bool true) ∧ Below w.heap.size w w' := by
  have HWK := Lib.hid works_any
  have HL0 : Hid (a0.data.toList.length = a0.size) := (Lib.size_eq a0).symm
  have HL1 : Hid (a1.data.toList.length = a1.size) := (Lib.size_eq a1).symm
  by_cases hl : 2000 < a0.size
  · have hl' : (2000 : Int) < (a0.size : Int) := by omega
    clear hl
    go_enter Try.func7, Try.ntmps7
    go_wp2_with (go_at_call 8; refine (HWK.out _).mono ?_; rintro e w1 ⟨rfl, hb⟩; have HB := Lib.hid hb; clear hb)
    go_ret
    exact ⟨rfl, HB.out⟩
  have hl' : ¬ (2000 : Int) < (a0.size : Int) := by omega
  by_cases hm : 2000 < a1.size
  · have hm' : (2000 : Int) < (a1.size : Int) := by omega
    clear hl hm
    go_enter Try.func7, Try.ntmps7
    go_wp2_with (go_at_call 8; refine (HWK.out _).mono ?_; rintro e w1 ⟨rfl, hb⟩; have HB := Lib.hid hb; clear hb)
    go_ret
    exact ⟨rfl, HB.out⟩
  have hm' : ¬ (2000 : Int) < (a1.size : Int) := by omega
  have h0 : a0.size ≤ 2000 := by omega
  have h1 : a1.size ≤ 2000 := by omega
  clear hl hm
  have s1 : (a0 ++ (⟨#[40]⟩ : ByteArray)).size = a0.size + 1 := by rw [ByteArray.size_append]; rfl
  have s2 : (a0 ++ (⟨#[40]⟩ : ByteArray) ++ a1).size = a0.size + 1 + a1.size := by rw [ByteArray.size_append, s1]
  have HS0 := Lib.hid (fun W => split_any a0 W w0)
  have HS1 := Lib.hid (fun W => split_any a1 W w1)
  have HS2 := Lib.hid (fun W => split_any (a0 ++ ⟨#[40]⟩ ++ a1) W (by rw [s2]; unfold maxLen; omega))
  clear w0 w1
  obtain ⟨b1, b2⟩ := sp_brackets a0 a1 h0 h1
  generalize Wo.spA (a0 ++ ⟨#[40]⟩ ++ a1).data.toList = A2 at *
  generalize Wo.spA a0.data.toList = A0 at *
  generalize Wo.spA a1.data.toList = A1 at *
  by_cases hbad : good a0.data.toList = false ∨ good a1.data.toList = false
  · rw [b1 hbad] at HS2
    generalize Wo.spV (a0 ++ ⟨#[40]⟩ ++ a1).data.toList = V2 at *
    have HE : Hid (∃ E0 E1 : Int, Wo.spE a0.data.toList = E0 ∧ Wo.spE a1.data.toList = E1 ∧ ((E0 != 0) = true ∨ ((E0 != 0) = false ∧ (E1 != 0) = true))) := by
      refine ⟨_, _, rfl, rfl, ?_⟩
      rcases hbad with h | h
      · rw [(sp_fault (by rw [HL0.out]; omega) h).1]; exact Or.inl (by decide)
      · cases h' : good a0.data.toList
        · rw [(sp_fault (by rw [HL0.out]; omega) h').1]; exact Or.inl (by decide)
        · rw [(sp_fine (by rw [HL0.out]; omega) h').1, (sp_fault (by rw [HL1.out]; omega) h).1]; exact Or.inr ⟨by decide, by decide⟩
    obtain ⟨E0, E1, e0, e1, hE⟩ := HE.out
    rw [e0] at HS0
    rw [e1] at HS1
    generalize Wo.spV a0.data.toList = V0 at *
    generalize Wo.spV a1.data.toList = V1 at *
    clear b1 b2 hbad HE e0 e1
    rcases hE with hE | ⟨hE, hE'⟩
    all_goals
      go_enter Try.func7, Try.ntmps7
      go_wp2_with fail
      go_at_call 9
      refine (HS0.out _).mono ?_
      rintro e w1 ⟨⟨u1, rfl, hu1⟩, hb1⟩
      have HB1 := Lib.hid hb1
      obtain ⟨la, lc, rfl, -, -⟩ := WdsAt.form hu1
      clear hb1 hu1
      go_wp2_with fail
      go_at_call 9
      refine (HS1.out _).mono ?_
      rintro e w2 ⟨⟨u2, rfl, hu2⟩, hb2⟩
      have HB2 := Lib.hid hb2
      obtain ⟨la2, lc2, rfl, -, -⟩ := WdsAt.form hu2
      clear hb2 hu2
      go_wp2_with fail
      go_at_call 9
      refine (HS2.out _).mono ?_
      rintro e w3 ⟨⟨u3, rfl, hu3⟩, hb3⟩
      have hb4 := below_alloc w3 (.cells #[.int .i64 4, .int .i64 (A2 : Nat)] 26)
      have hb23 := below_trans (below_alloc w2 (.cells #[.int .i64 E1, .int .i64 (A1 : Nat)] 26)) (below_trans hb3 hb4)
      obtain ⟨k0, -, -, -⟩ := box_two (keepB (heap_alloc_new w1 (.cells #[.int .i64 E0, .int .i64 (A0 : Nat)] 26)) (below_trans HB2.out hb23))
      obtain ⟨k1, -, -, -⟩ := box_two (keepB (heap_alloc_new w2 (.cells #[.int .i64 E1, .int .i64 (A1 : Nat)] 26)) (below_trans hb3 hb4))
      obtain ⟨k2, -, -, -⟩ := box_two (heap_alloc_new w3 (.cells #[.int .i64 4, .int .i64 (A2 : Nat)] 26))
      have HB4 := Lib.hid (below_trans HB1.out (below_trans (below_alloc w1 _) (below_trans HB2.out hb23)))
      obtain ⟨la3, lc3, rfl, -, -⟩ := WdsAt.form hu3
      clear hu3 hb3 hb4 hb23 HB1 HB2
      go_upto_region 6 with fail
      generalize w3.alloc (.cells #[.int .i64 4, .int .i64 (A2 : Nat)] 26) = w4 at *
      go_wp2_with (go_at_call 8; refine (HWK.out _).mono ?_; rintro e w6 ⟨rfl, hb6⟩; have HB6 := Lib.hid (below_trans HB4.out hb6); clear hb6)
      go_ret
      exact ⟨rfl, HB6.out⟩
  have hg0 : good a0.data.toList = true := by cases h : good a0.data.toList; (exact absurd (Or.inl h) hbad); rfl
  have hg1 : good a1.data.toList = true := by cases h : good a1.data.toList; (exact absurd (Or.inr h) hbad); rfl
  obtain ⟨c1, c2⟩ := b2 hg0 hg1
  obtain ⟨e0, v0⟩ := sp_fine (l := a0.data.toList) (by rw [HL0.out]; omega) hg0
  obtain ⟨e1, v1⟩ := sp_fine (l := a1.data.toList) (by rw [HL1.out]; omega) hg1
  rw [c1, c2] at HS2
  rw [e0, v0] at HS0
  rw [e1, v1] at HS1
  have hn0 := wds_len a0.data.toList 0
  have hn1 := wds_len a1.data.toList 0
  rw [HL0.out] at hn0
  rw [HL1.out] at hn1
  have htx := txs_pos a1.data.toList (a0.size + 1) 0
  have hlx := txs_len htx
  have HTX := Lib.hid htx
  clear b1 b2 hbad hg0 hg1 c1 c2 e0 v0 e1 v1 htx
  generalize wds 0 a0.data.toList = V0 at *
  generalize wds 0 a1.data.toList = V1 at *
  generalize wds (a0.size + 1) a1.data.toList = V1' at *
  obtain ⟨V2, hV2⟩ : ∃ V2, V0 ++ ([40], a0.size) :: V1' = V2 := ⟨_, rfl⟩
  rw [hV2] at HS2
  have hlen : V2.length = V0.length + 1 + V1.length := by rw [← hV2, List.length_append, List.length_cons, hlx]; omega
  have HM : Hid (∀ h : V0.length < V2.length, V2[V0.length] = ([40], a0.size)) := fun h => by
    have : V2[V0.length]? = some ([40], a0.size) := by rw [← hV2, List.getElem?_append_right (Nat.le_refl _)]; simp
    rw [List.getElem?_eq_getElem h] at this
    exact Option.some.inj this
  have HR : Hid (∀ j (h : V0.length + 1 + j < V2.length) (h' : j < V1.length), V2[V0.length + 1 + j].1 = V1[j].1) := fun j h h' => by
    have hj' : j < V1'.length := by omega
    have : V2[V0.length + 1 + j]? = some V1'[j] := by rw [← hV2, List.getElem?_append_right (by omega), show V0.length + 1 + j - V0.length = j + 1 by omega, List.getElem?_cons_succ, List.getElem?_eq_getElem hj']
    rw [List.getElem?_eq_getElem h] at this
    rw [Option.some.inj this]
    exact txs_at HTX.out j hj' h'
  have HT : Hid (V2.take V0.length = V0) := by show _ = _; rw [← hV2]; exact List.take_left
  have hlI : ((V2.length : Int) != (V0.length : Int) + 1 + (V1.length : Int)) = false := by rw [bne_eq_false_iff_eq]; omega
  clear hV2 hlx
  go_enter Try.func7, Try.ntmps7
  go_wp2_with fail
  go_at_call 9
  refine (HS0.out _).mono ?_
  rintro e w1 ⟨⟨u1, rfl, hu1⟩, hb1⟩
  have HB1 := Lib.hid hb1
  have HU1 := Lib.hid hu1
  obtain ⟨la, lc, rfl, -, -⟩ := WdsAt.form hu1
  clear hb1 hu1
  go_wp2_with fail
  go_at_call 9
  refine (HS1.out _).mono ?_
  rintro e w2 ⟨⟨u2, rfl, hu2⟩, hb2⟩
  have HB2 := Lib.hid hb2
  have HU2 := Lib.hid hu2
  obtain ⟨la2, lc2, rfl, -, -⟩ := WdsAt.form hu2
  clear hb2 hu2
  go_wp2_with fail
  go_at_call 9
  refine (HS2.out _).mono ?_
  rintro e w3 ⟨⟨u3, rfl, hu3⟩, hb3⟩
  have hb4 := below_alloc w3 (.cells #[.int .i64 0, .int .i64 (A2 : Nat)] 26)
  have hb23 := below_trans (below_alloc w2 (.cells #[.int .i64 0, .int .i64 (A1 : Nat)] 26)) (below_trans hb3 hb4)
  have hb13 := below_trans (below_alloc w1 (.cells #[.int .i64 0, .int .i64 (A0 : Nat)] 26)) (below_trans HB2.out hb23)
  obtain ⟨k0, -, -, -⟩ := box_two (keepB (heap_alloc_new w1 (.cells #[.int .i64 0, .int .i64 (A0 : Nat)] 26)) (below_trans HB2.out hb23))
  obtain ⟨k1, -, -, -⟩ := box_two (keepB (heap_alloc_new w2 (.cells #[.int .i64 0, .int .i64 (A1 : Nat)] 26)) (below_trans hb3 hb4))
  obtain ⟨k2, -, -, -⟩ := box_two (heap_alloc_new w3 (.cells #[.int .i64 0, .int .i64 (A2 : Nat)] 26))
  have HB4 := Lib.hid (below_trans HB1.out hb13)
  have HX1 := Lib.hid (WdsAt.move HU1.out (K' := All) (Moves.trans (moves_weak w1 fun _ _ _ => trivial) (Below.moves hb13)))
  have HX2 := Lib.hid (WdsAt.move HU2.out (K' := All) (Moves.trans (moves_weak w2 fun _ _ _ => trivial) (Below.moves hb23)))
  have HX3 := Lib.hid (WdsAt.move hu3 (K' := All) (Moves.trans (moves_weak w3 fun _ _ _ => trivial) (Below.moves hb4)))
  obtain ⟨la3, lc3, rfl, q3, q3'⟩ := WdsAt.form hu3
  clear hu3 hb3 hb4 hb23 hb13 HB1 HB2 HU1 HU2
  go_upto_region 6 with fail
  generalize w3.alloc (.cells #[.int .i64 0, .int .i64 (A2 : Nat)] 26) = w4 at *
  obtain ⟨b, o, rfl, -, -, g1, g2⟩ := WdsAt.get HX3.out V0.length (by omega)
  rw [HM.out (by omega)] at g1 g2
  have g1' : w4.cell? ⟨b, o + V0.length * 2, none⟩ = some (.string ⟨#[40]⟩) := g1
  have hVl : V0.length < V2.length := by omega
  clear g1
  go_wp2
  go_loopg [11] (V1.length) (fun g i wr => ∃ k : Nat, k ≤ V1.length ∧ g = V1.length - k ∧ i = .int .i64 k ∧ Hid (Below w4.heap.size w4 wr))
  case atStart => exact ⟨0, Nat.zero_le _, rfl, rfl, Below.refl _ _⟩
  case round =>
    obtain ⟨j, hj, hg, rfl, HB⟩ := hrel
    by_cases hlt : j < V1.length
    · obtain ⟨b3, o3, eb, -, -, c1, -⟩ := WdsAt.get (WdsAt.move HX3.out (Below.moves HB.out)) (V0.length + 1 + j) (by omega)
      simp only [Option.some.injEq, Addr.mk.injEq, and_true] at eb
      obtain ⟨rfl, rfl⟩ := eb
      obtain ⟨b', o', rfl, -, -, d1, -⟩ := WdsAt.get (WdsAt.move HX2.out (Below.moves HB.out)) j hlt
      rw [HR.out j (by omega) hlt] at c1
      generalize mk V1[j].1 = x at *
      have hjj : V0.length + 1 + j < V2.length := by omega
      go_wp2
      go_region
      all_goals
        go_wp2
        go_roundg (V1.length - (j + 1))
        case rel => exact ⟨j + 1, by omega, rfl, by go_num, Below.drew HB.out⟩
        case measure => omega
    · have hx3 := WdsAt.move HX3.out (Below.moves HB.out)
      have hx1 := WdsAt.move HX1.out (Below.moves HB.out)
      have hcut : WdsAt All wr (.slice (some ⟨b, o, none⟩) V0.length lc3) V0 := by
        obtain ⟨a, c, ea, r1, r2, r3⟩ := hx3
        simp only [Value.slice.injEq] at ea
        obtain ⟨rfl, -, rfl⟩ := ea
        refine ⟨_, _, rfl, by omega, r2, ?_⟩
        rcases r3 with r3 | ⟨b5, o5, eb, r4, r5, r6⟩
        · rw [r3] at hVl; exact absurd hVl (by simp)
        · refine Or.inr ⟨b5, o5, eb, r4, r5, fun i x hx => r6 i x ?_⟩
          rw [← HT.out] at hx
          rw [List.getElem?_take] at hx
          split at hx
          · exact hx
          · cases hx
      have HSM := Lib.hid (same_any _ _ V0 wr hcut hx1 (by omega))
      clear hx3 hx1 hcut
      have hle : V0.length ≤ lc3 := by omega
      go_wp2_with (first | (go_at_call 11; refine HSM.out.mono ?_; rintro e w5 ⟨rfl, hb5⟩; have HB5 := Lib.hid (below_trans (below_trans HB4.out HB.out) hb5); clear hb5) | (go_at_call 8; refine (HWK.out _).mono ?_; rintro e w6 ⟨rfl, hb6⟩; have HB6 := Lib.hid (below_trans HB5.out hb6); clear hb6))
      go_ret
      exact ⟨rfl, HB6.out⟩

/-! ### the row's step -/
theorem laidOut : laidOutB Try.prog = true := by kernel_rfl
set_option maxRecDepth 100000 in
theorem lifted (os : Os) (started : os.Started) (H : Type) (enc : TypeId × Value → H) :
    ReturnsInHanded {} Try.checked os 7 .any (Rows.wordsBracketsSpec.pre6 enc Try.prog Try.f7 Rows.wordsBracketsRow.domain false) (Rows.wordsBracketsSpec.post enc Try.prog Try.f7 false true false false) := by
  refine returnsInHanded_of_change (C := Try.checked) own started (by kernel_rfl) Try.func7
    (ChangeSpec.witness6 (enc := enc) (C := Try.checked) false ⟨#[], #[.string ByteArray.empty, .string ByteArray.empty], []⟩ 8 (by kernel_rfl) (by kernel_rfl) (by kernel_rfl) (by kernel_rfl)) ?_
  intro W base args ds gs before hval0 hW hcnd _
  have hval : ∀ (j : Nat) t v, Try.f7.params[j]? = some t → args[j]? = some v → Value.okWide Try.prog W .any base t v := hval0
  have hW' := hW
  obtain ⟨p, q, hA0, hV, rfl, hfz, hnd⟩ := hW
  have hA : DataW.TrodAll enc Try.prog W 0 (fun _ => true) true Try.f7.params.toList args.toList ds p := hA0
  rw [Try.params7] at hA hval
  obtain ⟨v0, vs0, d0, ds0, p0, q0, hargs, rfl, rfl, h0, r0⟩ := trodAll_cons hA
  obtain ⟨v1, vs1, d1, ds1, p1, q1, rfl, rfl, rfl, h1, r1⟩ := trodAll_cons r0
  obtain ⟨rfl, rfl, rfl⟩ := trodAll_nil r1
  obtain rfl : args = #[v0, v1] := by cases args; simp_all
  obtain ⟨rfl, rfl⟩ := trodVars_none hV
  have k0 := h0
  have lt0 : ∀ x ∈ p0, x.block < W.heap.size := by obtain ⟨m, hm⟩ := k0; exact DataW.trod_lt m _ _ _ hm
  obtain ⟨a0, rfl, _, _, w0⟩ := open_string Try.underlying9 (hval 0 9 v0 rfl rfl) h0
  have k1 := h1
  have lt1 : ∀ x ∈ p1, x.block < W.heap.size := by obtain ⟨m, hm⟩ := k1; exact DataW.trod_lt m _ _ _ hm
  obtain ⟨a1, rfl, _, _, w1⟩ := open_string Try.underlying9 (hval 1 9 v1 rfl rfl) h1
  clear hA0 hval0
  refine (walk W a0 w0 a1 w1).mono fun e W' ⟨he, bel⟩ => ?_
  subst he
  exact ⟨_, rfl, _, _, _, [], _, [], hW', (trodAll_cons_mk (shut_bool Try.underlying4 _) trodAll_mk0), (trodAll_cons_mk (Below.trod laidOut (by kernel_rfl) (of_decide_eq_true (by kernel_rfl)) k0 bel lt0) (trodAll_cons_mk (Below.trod laidOut (by kernel_rfl) (of_decide_eq_true (by kernel_rfl)) k1 bel lt1) trodAll_mk0)), rfl, bel.frame _, fun h => by cases h⟩

theorem over : Rows.wordsBracketsRow.holds Try.pinned (OpenSpec.ofChange Rows.wordsBracketsSpec) :=
  OpenClaim.holds_of_wide 7 Try.f7 rfl rfl rfl rfl rfl rfl rfl ⟨rfl, rfl, rfl, rfl, rfl⟩ rfl rfl rfl rfl rfl (by kernel_rfl) Try.func7 (by kernel_rfl)
    (of_decide_eq_true (by kernel_rfl)) (by unfold Func.isWrapper; first | (rw [if_pos (by decide +kernel)]; kernel_rfl) | (rw [if_neg (by decide +kernel)]; exact ⟨rfl, rfl⟩))
    (fun os started H enc _ => lifted os started H enc)

/-- The statement. -/
theorem proved : Rows.WordsBracketsSaid := over
end Go.Proofs.Ytlabekdigehnnaa.wordsBrackets
namespace Go.Proofs.Ytlabekdigehnnaa
theorem wordsBrackets_holds : Rows.WordsBracketsSaid := wordsBrackets.proved
#print axioms wordsBrackets_holds
end Go.Proofs.Ytlabekdigehnnaa
