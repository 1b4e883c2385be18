/-
  WordsJoins holds for every row of texts and every text: joined as the reference joins them; words of a text, joined, are split into the same words.
-/
import Derived.Test.YtlabekdigehnnaaRows
import Derived.WalkKit
import Derived.ProofKit
import Derived.OpenShut
import Derived.ShutString
import Derived.Below
import Derived.Carry
import Derived.Laws.Cover2
import Derived.HandedShaped
import Derived.Test.YtlabekdigehnnaaWJoin
import Derived.Test.YtlabekdigehnnaaWLaws
import Derived.Test.YtlabekdigehnnaaWOpen
namespace Go.Proofs.Ytlabekdigehnnaa.wordsJoins
open Go.ChangeShapes Go.WideShapes Go.ChangeAt Go.RowKit
open Go.ChangeMaps (open_string)
open Go.Proofs.Ytlabekdigehnnaa.Wo
set_option linter.unusedVariables false
set_option linter.unusedSimpArgs false

theorem own : ownKnob Try.prog.godebug = none := by kernel_rfl

/-! ### the walk: the law returns true -/
set_option maxHeartbeats 4000000 in
theorem walk (w : World) (v0 : Value) (l0 : List Tx) (w0 : TxAt All w v0 l0) (z0 : ∀ x ∈ l0, x.length ≤ 281474976710656) (a1 : ByteArray) (w1 : a1.size ≤ maxLen) :
    Calls Try.prog 4 #[v0, .string a1] w fun e w' => e = .returned (.bool true) ∧ Below w.heap.size w w' := by
  have HWK := Lib.hid works_any
  have HL1 : Hid (a1.data.toList.length = a1.size) := (Lib.size_eq a1).symm
  have HT0 := Lib.hid w0
  obtain ⟨xa, xc, rfl, x1, x2, -⟩ := w0
  unfold maxLen at x2
  by_cases hl : 500 < l0.length
  · have hl' : (500 : Int) < (l0.length : Int) := by omega
    clear hl
    go_enter Try.func4, Try.ntmps4
    go_wp2_with (go_at_call 8; refine (HWK.out _).mono ?_; rintro e w1 ⟨rfl, hb⟩; have HB := Lib.hid hb; clear hb)
    go_ret
    exact ⟨rfl, HB.out⟩
  have hl' : ¬ (500 : Int) < (l0.length : Int) := by omega
  by_cases hm : 5000 < a1.size
  · have hm' : (5000 : Int) < (a1.size : Int) := by omega
    clear hl hm
    go_enter Try.func4, Try.ntmps4
    go_wp2_with (go_at_call 8; refine (HWK.out _).mono ?_; rintro e w1 ⟨rfl, hb⟩; have HB := Lib.hid hb; clear hb)
    go_ret
    exact ⟨rfl, HB.out⟩
  have hm' : ¬ (5000 : Int) < (a1.size : Int) := by omega
  have h0 : l0.length ≤ 500 := by omega
  have h1 : a1.size ≤ 5000 := by omega
  have HZ := Lib.hid z0
  have HS1 := Lib.hid (fun W => split_any a1 W w1)
  clear hl hm z0 w1
  go_enter Try.func4, Try.ntmps4
  go_wp2
  clear hl' hm'
  go_loopg [5, 6] (l0.length) (fun g nn i wr => ∃ (k t : Nat), k ≤ l0.length ∧ g = l0.length - k ∧ nn = .int .i64 t ∧ i = .int .i64 k ∧ t ≤ 281474976715656 ∧ Hid (t = sumL (l0.take k)) ∧ wr = w)
  case atStart => exact ⟨0, 0, Nat.zero_le _, rfl, rfl, rfl, by omega, rfl, rfl⟩
  case round =>
    obtain ⟨k, t, hk, hg, rfl, rfl, ht, HS, rfl⟩ := hrel
    by_cases hlt : k < l0.length ∧ t ≤ 5000
    · obtain ⟨hlt, ht5⟩ := hlt
      obtain ⟨b, o, rfl, -, hc⟩ := tx_get HT0.out k hlt
      have hx : (mk l0[k]).size ≤ 281474976710656 := by rw [mk_size]; exact HZ.out _ (List.getElem_mem _)
      have HN : Hid (t + (mk l0[k]).size = sumL (l0.take (k + 1))) := by show _ = _; rw [sumL_take l0 k hlt, mk_size, HS.out]
      have ht' : (t : Int) ≤ 5000 := by omega
      generalize mk l0[k] = X at *
      go_wp2
      go_roundg (l0.length - (k + 1))
      case rel => exact ⟨k + 1, t + X.size, by omega, rfl, by go_num, by go_num, by omega, HN.out, rfl⟩
      case measure => omega
    by_cases ht5 : 5000 < t
    · have ht' : ¬ (t : Int) ≤ 5000 := by omega
      have ht2 : (5000 : Int) < (t : Int) := by omega
      clear hlt
      by_cases hk2 : k < l0.length
      all_goals
        go_wp2_with (go_at_call 8; refine (HWK.out _).mono ?_; rintro e w1 ⟨rfl, hb⟩; have HB := Lib.hid hb; clear hb)
        go_ret
        exact ⟨rfl, HB.out⟩
    have ht' : (t : Int) ≤ 5000 := by omega
    have ht2 : ¬ (5000 : Int) < (t : Int) := by omega
    have hk2 : ¬ k < l0.length := by omega
    have hsum : sumL l0 ≤ 5000 := by have := HS.out; rw [List.take_of_length_le (by omega)] at this; omega
    have hjl : (joinC 32 l0).length ≤ 5500 := by have := join_sum l0; omega
    have HJ := Lib.hid (join_any _ l0 wr HT0.out (by omega))
    have HT1 : Hid (∀ W, Below wr.heap.size wr W → Calls Try.prog 13 #[.slice xa l0.length xc] W fun e w' => e = .returned (.string (mk (joinC 32 l0))) ∧ w' = W) := fun W hW => rjoin_any _ l0 W (TxAt.move HT0.out (Below.moves hW)) (by omega)
    generalize mk (joinC 32 l0) = J at *
    clear hlt ht5 hsum hjl
    go_wp2_with fail
    go_at_call 12
    refine HJ.out.mono ?_
    rintro e w1 ⟨rfl, hb1⟩
    have HB1 := Lib.hid hb1
    clear hb1
    go_wp2_with fail
    go_at_call 13
    refine (HT1.out _ HB1.out).mono ?_
    rintro e w2 ⟨rfl, hw2⟩
    subst hw2
    cases hg : good a1.data.toList
    · obtain ⟨e1, -⟩ := sp_fault (l := a1.data.toList) (by rw [HL1.out]; omega) hg
      rw [e1] at HS1
      go_wp2_with (first | (go_at_call 9; refine (HS1.out _).mono ?_; rintro e w3 ⟨⟨u3, rfl, hu3⟩, hb3⟩; have HB3 := Lib.hid hb3; obtain ⟨la, lc, rfl, -, -⟩ := WdsAt.form hu3; clear hb3 hu3) | (go_at_call 8; refine (HWK.out _).mono ?_; rintro e w6 ⟨rfl, hb6⟩; have HB6 := Lib.hid (below_trans HB1.out (below_trans HB3.out (below_trans (below_alloc w3 _) hb6))); clear hb6))
      go_ret
      exact ⟨rfl, HB6.out⟩
    obtain ⟨e1, e2⟩ := sp_fine (l := a1.data.toList) (by rw [HL1.out]; omega) hg
    obtain ⟨q1, q2⟩ := sp_again a1.data.toList (by rw [HL1.out]; omega)
    have hvl := wds_len a1.data.toList 0
    have hjl := joined_len a1.data.toList 0
    rw [HL1.out] at hvl hjl
    rw [e1, e2] at HS1
    generalize Wo.spA a1.data.toList = A at *
    generalize wds 0 a1.data.toList = V at *
    have hvl5 : V.length ≤ 5000 := by omega
    have hjl5 : (joinC 32 (txs V)).length ≤ 10000 := by omega
    clear e1 e2 hg hvl hjl
    go_wp2_with (first | (go_at_call 9; refine (HS1.out _).mono ?_; rintro e w3 ⟨⟨u3, rfl, hu3⟩, hb3⟩; have HB3 := Lib.hid (below_trans HB1.out (below_trans hb3 (below_alloc w3 (.cells #[.int .i64 0, .int .i64 (A : Nat)] 26)))); have HU3 := Lib.hid (WdsAt.move hu3 (K' := All) (Moves.trans (moves_weak w3 fun _ _ _ => trivial) (Below.moves (below_alloc w3 (.cells #[.int .i64 0, .int .i64 (A : Nat)] 26))))); obtain ⟨la, lc, rfl, -, -⟩ := WdsAt.form hu3; clear hb3 hu3))
    generalize w3.alloc (.cells #[.int .i64 0, .int .i64 (A : Nat)] 26) = w4 at *
    clear HJ HT1 HS1 HT0 HB1
    obtain ⟨is, j1, j2, j3, j4⟩ := infoS
    go_loopg [9, 10] (V.length) (fun g mv i wr => ∃ (k : Nat) (ma : Option Addr) (mc : Nat), k ≤ V.length ∧ g = V.length - k ∧ mv = .slice ma k mc ∧ i = .int .i64 k ∧ Hid (wr.ownsRow w4.heap.size 9 1 (.slice ma k mc) k ((txs (V.take k)).map fun t => Value.string (mk t))) ∧ Hid (Below w4.heap.size w4 wr))
    case atStart => exact ⟨0, none, 0, Nat.zero_le _, rfl, rfl, rfl, World.ownsRow_nil _ _ _ _, Below.refl _ _⟩
    case round =>
      obtain ⟨k2, ma, mc, hk2', hg2, rfl, rfl, HO, HB⟩ := hrel
      by_cases hlt : k2 < V.length
      · obtain ⟨b, o, rfl, hbl, -, c1, -⟩ := WdsAt.get (WdsAt.move HU3.out (Below.moves HB.out)) k2 hlt
        have HTT := Lib.hid (txs_take V k2 hlt)
        generalize mk V[k2].1 = x at *
        have HNw := Lib.hid (World.news_of_block (heap_alloc_new wr (.cells #[.string x] 9)))
        have hB2 := below_alloc wr (.cells #[.string x] 9)
        have hO2 : (wr.alloc (.cells #[.string x] 9)).ownsRow w4.heap.size 9 1 (.slice ma k2 mc) k2 ((txs (V.take k2)).map fun t => Value.string (mk t)) := by
          refine ⟨HO.out.1, HO.out.2.imp id ?_⟩
          rintro ⟨g, c, cur, e1, h0, hh, hr⟩
          exact ⟨g, c, cur, e1, h0, keepB hh hB2, hr⟩
        have HO2 := Lib.hid hO2
        have HBL := Lib.hid (below_trans HB.out hB2)
        have HON : Hid (∀ u ∈ [Value.string x], u.oneCell' = true) := fun u hu => by simp at hu; subst hu; rfl
        have HLN : Hid (k2 + 1 ≤ maxLen) := by show _ ≤ _; simp only [maxLen]; omega
        have HLB : Hid ((k2 + 1) * 16 ≤ 140737488355328) := by show _ ≤ _; omega
        clear hB2 hO2
        go_wp2_with (at_builtin; refine wpList_append_own_at _ (by rfl) _ _ 31 (by rfl) w4.heap.size 9 is (.string ByteArray.empty) 1 16 Try.underlying31 j1 j2 j3 j4 (by rfl) (by omega) (.slice ma k2 mc) k2 ((txs (V.take k2)).map fun t => Value.string (mk t)) (by rfl) HO2.out ⟨wr.heap.size, 0, none⟩ 1 1 [.string x] (by rfl) (by rfl) HNw.out HON.out HLN.out HLB.out HBL.out.size ?_)
        intro lv2 w5 hown hgrow hnil hat
        have HB5 := Lib.hid (HBL.out.grown hgrow HBL.out.size fun q hq => (HO2.out.lt q hq).1)
        obtain ⟨la2, lc2, rfl, -, -⟩ := own_form2 hown
        have HOW := Lib.hid hown
        clear hown hgrow hnil hat
        go_wp2
        go_roundg (V.length - (k2 + 1))
        case rel => exact ⟨k2 + 1, la2, lc2, by omega, rfl, rfl, by go_num, by rw [HTT.out]; exact HOW.out, HB5.out⟩
        case measure => omega
      · have hkk : k2 = V.length := by omega
        have htx : TxAt All wr (.slice ma k2 mc) (txs V) := by
          have ho := HO.out
          rw [List.take_of_length_le (by omega)] at ho
          have hlen : k2 = (txs V).length := by simp [txs]; exact hkk
          rw [hlen] at ho ⊢
          exact row_of_own (K := All) (R := StrAt) (ys := txs V) ho (fun _ _ => trivial) (fun j u t hu ht => by
            rw [List.getElem?_map, ht] at hu
            exact (Option.some.inj hu).symm)
        have HJ := Lib.hid (join_any _ (txs V) wr htx (by omega))
        have HS2 := Lib.hid (fun W => split_any (mk (joinC 32 (txs V))) W (by rw [mk_size]; unfold maxLen; omega))
        rw [q1] at HS2
        have hvl2 := spV_len (mk (joinC 32 (txs V))).data.toList
        have hlen2 := txs_len q2
        have HQ2 := Lib.hid q2
        generalize Wo.spA (mk (joinC 32 (txs V))).data.toList = A2 at *
        generalize Wo.spV (mk (joinC 32 (txs V))).data.toList = V2 at *
        generalize mk (joinC 32 (txs V)) = J2 at *
        clear htx hkk q1 q2
        go_wp2_with fail
        go_at_call 12
        refine HJ.out.mono ?_
        rintro e w5 ⟨rfl, hb5⟩
        have HB5 := Lib.hid hb5
        clear hb5
        go_wp2_with fail
        go_at_call 9
        refine (HS2.out _).mono ?_
        rintro e w6 ⟨⟨u6, rfl, hu6⟩, hb6⟩
        have hb7 := below_alloc w6 (.cells #[.int .i64 0, .int .i64 (A2 : Nat)] 26)
        have hb47 := below_trans HB.out (below_trans HB5.out (below_trans hb6 hb7))
        have HX1 := Lib.hid (WdsAt.move HU3.out (Below.moves hb47))
        have HX2 := Lib.hid (WdsAt.move hu6 (K' := All) (Moves.trans (moves_weak w6 fun _ _ _ => trivial) (Below.moves hb7)))
        obtain ⟨k0, -, -, -⟩ := box_two (heap_alloc_new w6 (.cells #[.int .i64 0, .int .i64 (A2 : Nat)] 26))
        have HB7 := Lib.hid (below_trans HB3.out hb47)
        obtain ⟨la6, lc6, rfl, -, -⟩ := WdsAt.form hu6
        rw [hlen2] at HX2 ⊢
        clear hu6 hb6 hb7 hb47
        go_upto_region 21 with fail
        generalize w6.alloc (.cells #[.int .i64 0, .int .i64 (A2 : Nat)] 26) = w7 at *
        go_wp2
        go_loopg [13] (V.length) (fun g i wr => ∃ k : Nat, k ≤ V.length ∧ g = V.length - k ∧ i = .int .i64 k ∧ Hid (Below w7.heap.size w7 wr))
        case atStart => exact ⟨0, Nat.zero_le _, rfl, rfl, Below.refl _ _⟩
        case round =>
          obtain ⟨j, hj, hg3, rfl, HB8⟩ := hrel
          by_cases hlt3 : j < V.length
          · obtain ⟨b, o, rfl, -, -, c1, -⟩ := WdsAt.get (WdsAt.move HX1.out (Below.moves HB8.out)) j hlt3
            obtain ⟨b', o', rfl, -, -, d1, -⟩ := WdsAt.get (WdsAt.move HX2.out (Below.moves HB8.out)) j (by omega)
            rw [txs_at HQ2.out j (by omega) hlt3] at d1
            generalize mk V[j].1 = x at *
            go_wp2
            go_region
            all_goals
              go_wp2
              go_roundg (V.length - (j + 1))
              case rel => exact ⟨j + 1, by omega, rfl, by go_num, Below.drew HB8.out⟩
              case measure => omega
          · go_wp2_with (go_at_call 8; refine (HWK.out _).mono ?_; rintro e w9 ⟨rfl, hb9⟩; have HB9 := Lib.hid (below_trans (below_trans HB7.out HB8.out) hb9); clear hb9)
            go_ret
            exact ⟨rfl, HB9.out⟩

/-! ### the row's step -/
theorem laidOut : laidOutB Try.prog = true := by kernel_rfl
set_option maxRecDepth 100000 in
theorem lifted (os : Os) (started : os.Started) (H : Type) (enc : TypeId × Value → H) :
    ReturnsInHanded {} Try.checked os 4 .any (Rows.wordsJoinsSpec.pre6 enc Try.prog Try.f4 Rows.wordsJoinsRow.domain false) (Rows.wordsJoinsSpec.post enc Try.prog Try.f4 false true false false) := by
  refine returnsInHanded_of_change_shaped (C := Try.checked) own started (by kernel_rfl) Try.func4
    (ChangeSpec.witness6 (enc := enc) (C := Try.checked) false ⟨#[], #[.slice none 0 0, .string ByteArray.empty], []⟩ 8 (by kernel_rfl) (by kernel_rfl) (by kernel_rfl) (by kernel_rfl)) ?_
  intro W base args ds gs before hval0 hW hcnd hwt _ _
  have hval : ∀ (j : Nat) t v, Try.f4.params[j]? = some t → args[j]? = some v → Value.okWide Try.prog W .any base t v := hval0
  have hW' := hW
  obtain ⟨p, q, hA0, hV, rfl, hfz, hnd⟩ := hW
  have hA : DataW.TrodAll enc Try.prog W 0 (fun _ => true) true Try.f4.params.toList args.toList ds p := hA0
  rw [Try.params4] at hA hval hwt
  obtain ⟨v0, vs0, d0, ds0, p0, q0, hargs, rfl, rfl, h0, r0⟩ := trodAll_cons hA
  obtain ⟨v1, vs1, d1, ds1, p1, q1, rfl, rfl, rfl, h1, r1⟩ := trodAll_cons r0
  obtain ⟨rfl, rfl, rfl⟩ := trodAll_nil r1
  obtain rfl : args = #[v0, v1] := by cases args; simp_all
  obtain ⟨rfl, rfl⟩ := trodVars_none hV
  have hwl : ∀ z, (z ∈ d0.weights Try.prog 31 → z ≤ reachBytes) ∧ (z ∈ d1.weights Try.prog 9 → z ≤ reachBytes) := fun z => by
    have h := List.all_eq_true.1 hwt z
    simp only [decide_eq_true_eq] at h
    refine ⟨fun hz => h ?_, fun hz => h ?_⟩
    all_goals
      simp only [List.cons_append, List.nil_append, List.toList_toArray, List.append_nil, DataW.weightsEach, List.mem_append]
      first | exact Or.inl hz | exact Or.inr (Or.inl hz) | exact Or.inr (Or.inr (Or.inl hz)) | simp [hz]
  have k0 := h0
  have lt0 : ∀ x ∈ p0, x.block < W.heap.size := by obtain ⟨m, hm⟩ := k0; exact DataW.trod_lt m _ _ _ hm
  obtain ⟨l0, w0, z0⟩ := open_texts h0 (okWide_slice Try.underlying31 (hval 0 31 v0 rfl rfl)) (fun z hz => (hwl z).1 hz)
  have k1 := h1
  have lt1 : ∀ x ∈ p1, x.block < W.heap.size := by obtain ⟨m, hm⟩ := k1; exact DataW.trod_lt m _ _ _ hm
  obtain ⟨a1, rfl, _, _, w1⟩ := open_string Try.underlying9 (hval 1 9 v1 rfl rfl) h1
  clear hA0 hval0
  refine (walk W v0 l0 w0 z0 a1 w1).mono fun e W' ⟨he, bel⟩ => ?_
  subst he
  exact ⟨_, rfl, _, _, _, [], _, [], hW', (trodAll_cons_mk (shut_bool Try.underlying4 _) trodAll_mk0), (trodAll_cons_mk (Below.trod laidOut (by kernel_rfl) (of_decide_eq_true (by kernel_rfl)) k0 bel lt0) (trodAll_cons_mk (Below.trod laidOut (by kernel_rfl) (of_decide_eq_true (by kernel_rfl)) k1 bel lt1) trodAll_mk0)), rfl, bel.frame _, fun h => by cases h⟩

theorem over : Rows.wordsJoinsRow.holds Try.pinned (OpenSpec.ofChange Rows.wordsJoinsSpec) :=
  OpenClaim.holds_of_wide 4 Try.f4 rfl rfl rfl rfl rfl rfl rfl ⟨rfl, rfl, rfl, rfl, rfl⟩ rfl rfl rfl rfl rfl (by kernel_rfl) Try.func4 (by kernel_rfl)
    (of_decide_eq_true (by kernel_rfl)) (by unfold Func.isWrapper; first | (rw [if_pos (by decide +kernel)]; kernel_rfl) | (rw [if_neg (by decide +kernel)]; exact ⟨rfl, rfl⟩))
    (fun os started H enc _ => lifted os started H enc)

/-- The statement. -/
theorem proved : Rows.WordsJoinsSaid := over
end Go.Proofs.Ytlabekdigehnnaa.wordsJoins
namespace Go.Proofs.Ytlabekdigehnnaa
theorem wordsJoins_holds : Rows.WordsJoinsSaid := wordsJoins.proved
#print axioms wordsJoins_holds
end Go.Proofs.Ytlabekdigehnnaa
