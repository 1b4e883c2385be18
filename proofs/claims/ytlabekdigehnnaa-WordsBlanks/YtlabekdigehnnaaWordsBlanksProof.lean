/-
  WordsBlanks holds for every two texts and every byte: how many blanks and ends of lines stand between plays no part.
-/
import Derived.Test.YtlabekdigehnnaaRows
import Derived.WalkKit
import Derived.ProofKit
import Derived.OpenShut
import Derived.ShutString
import Derived.Below
import Derived.Carry
import Derived.Laws.Cover2
import Derived.Test.YtlabekdigehnnaaWJoin
import Derived.Test.YtlabekdigehnnaaWLaws
namespace Go.Proofs.Ytlabekdigehnnaa.wordsBlanks
open Go.ChangeShapes Go.WideShapes Go.ChangeAt Go.RowKit
open Go.ChangeMaps (open_string)
open Go.Proofs.Ytlabekdigehnnaa.Wo
set_option linter.unusedVariables false

theorem own : ownKnob Try.prog.godebug = none := by kernel_rfl

/-! ### the walk: the law returns true -/
set_option maxHeartbeats 4000000 in
theorem walk (w : World) (a0 : ByteArray) (w0 : a0.size ≤ maxLen) (a1 : ByteArray) (w1 : a1.size ≤ maxLen) (a2 : Int) (w2 : (Lit.int .u8 a2).wf = true) :
    Calls Try.prog 6 #[.string a0, .string a1, .int .u8 a2] w fun e w' => e = .returned (.bool true) ∧ Below w.heap.size w w' := by
  have HWK := Lib.hid works_any
  obtain ⟨c, rfl, hc⟩ := byte_of w2
  by_cases hl : 2000 < a0.size
  · have hl' : (2000 : Int) < (a0.size : Int) := by omega
    clear hl
    go_enter Try.func6, Try.ntmps6
    go_wp2_with (go_at_call 8; refine (HWK.out _).mono ?_; rintro e w1 ⟨rfl, hb⟩; have HB := Lib.hid hb; clear hb)
    go_ret
    exact ⟨rfl, HB.out⟩
  have hl' : ¬ (2000 : Int) < (a0.size : Int) := by omega
  by_cases hm : 2000 < a1.size
  · have hm' : (2000 : Int) < (a1.size : Int) := by omega
    clear hl hm
    go_enter Try.func6, Try.ntmps6
    go_wp2_with (go_at_call 8; refine (HWK.out _).mono ?_; rintro e w1 ⟨rfl, hb⟩; have HB := Lib.hid hb; clear hb)
    go_ret
    exact ⟨rfl, HB.out⟩
  have hm' : ¬ (2000 : Int) < (a1.size : Int) := by omega
  have h0 : a0.size ≤ 2000 := by omega
  have h1 : a1.size ≤ 2000 := by omega
  clear hl hm w0 w1 w2
  go_enter Try.func6, Try.ntmps6
  go_wp2
  clear hl' hm'
  go_loopg [7, 8] (50 - 0) (fun g mo i wr => ∃ (k : Nat) (O : ByteArray), k ≤ c % 50 ∧ g = 50 - k ∧ mo = .string O ∧ i = .int .i64 k ∧ O.size ≤ 100 ∧ Hid (O = mk (more k)) ∧ wr = w)
  case atStart => exact ⟨0, ⟨#[32]⟩, Nat.zero_le _, rfl, rfl, rfl, by decide, rfl, rfl⟩
  case round =>
    obtain ⟨k, O, hk, hg, rfl, rfl, hO, HO, rfl⟩ := hrel
    by_cases hlt : k < c % 50
    · have hlt' : (k : Int) < (c : Int) % 50 := by omega
      rcases Nat.mod_two_eq_zero_or_one k with hp | hp
      · have hp' : ((k : Int) % 2 == 0) = true := by rw [beq_iff_eq]; omega
        have HN : Hid (O ++ ⟨#[10]⟩ = mk (more (k + 1))) := by show _ = _; rw [HO.out, more, if_pos hp]; exact mk_cat _ [10]
        have hs : (O ++ ⟨#[10]⟩).size ≤ 100 := by rw [HN.out, mk_size, more_len]; omega
        clear hp
        go_wp2
        go_roundg (50 - (k + 1))
        case rel => exact ⟨k + 1, _, by omega, rfl, rfl, by go_num, hs, HN.out, rfl⟩
        case measure => omega
      · have hp' : ((k : Int) % 2 == 0) = false := by rw [beq_eq_false_iff_ne]; omega
        have HN : Hid (O ++ ⟨#[32]⟩ = mk (more (k + 1))) := by show _ = _; rw [HO.out, more, if_neg (by omega)]; exact mk_cat _ [32]
        have hs : (O ++ ⟨#[32]⟩).size ≤ 100 := by rw [HN.out, mk_size, more_len]; omega
        clear hp
        go_wp2
        go_roundg (50 - (k + 1))
        case rel => exact ⟨k + 1, _, by omega, rfl, rfl, by go_num, hs, HN.out, rfl⟩
        case measure => omega
    · have hlt' : ¬ (k : Int) < (c : Int) % 50 := by omega
      obtain ⟨q1, q2⟩ := sp_blanks a0 a1 O k HO.out h0 h1 (by omega)
      have s1 : (a0 ++ (⟨#[32]⟩ : ByteArray)).size = a0.size + 1 := by rw [ByteArray.size_append]; rfl
      have s2 : (a0 ++ (⟨#[32]⟩ : ByteArray) ++ a1).size = a0.size + 1 + a1.size := by rw [ByteArray.size_append, s1]
      have s3 : (a0 ++ O).size = a0.size + O.size := ByteArray.size_append ..
      have s4 : (a0 ++ O ++ a1).size = a0.size + O.size + a1.size := by rw [ByteArray.size_append, s3]
      have HS1 := Lib.hid (fun W => split_any (a0 ++ ⟨#[32]⟩ ++ a1) W (by rw [s2]; unfold maxLen; omega))
      have HS2 := Lib.hid (fun W => split_any (a0 ++ O ++ a1) W (by rw [s4]; unfold maxLen; omega))
      have hvl := spV_len (a0 ++ ⟨#[32]⟩ ++ a1).data.toList
      rw [q1] at HS2
      generalize Wo.spV (a0 ++ O ++ a1).data.toList = V2 at *
      generalize Wo.spV (a0 ++ ⟨#[32]⟩ ++ a1).data.toList = V at *
      generalize Wo.spE (a0 ++ ⟨#[32]⟩ ++ a1).data.toList = E at *
      generalize Wo.spA (a0 ++ O ++ a1).data.toList = A2 at *
      generalize Wo.spA (a0 ++ ⟨#[32]⟩ ++ a1).data.toList = A at *
      have hlen := txs_len q2
      have HQ := Lib.hid q2
      clear q1 q2
      go_wp2_with fail
      go_at_call 9
      refine (HS1.out _).mono ?_
      rintro e w1 ⟨⟨u1, rfl, hu1⟩, hb1⟩
      have HB1 := Lib.hid hb1
      have HU1 := Lib.hid hu1
      obtain ⟨la, lc, rfl, -, -⟩ := WdsAt.form hu1
      clear hb1 hu1
      go_wp2_with fail
      go_at_call 9
      refine (HS2.out _).mono ?_
      rintro e w2 ⟨⟨u2, rfl, hu2⟩, hb2⟩
      have hb3 := below_alloc w2 (.cells #[.int .i64 E, .int .i64 (A2 : Nat)] 26)
      obtain ⟨k0, k1, -, -⟩ := box_two (keepB (heap_alloc_new w1 (.cells #[.int .i64 E, .int .i64 (A : Nat)] 26)) (below_trans hb2 hb3))
      obtain ⟨p0, p1, -, -⟩ := box_two (heap_alloc_new w2 (.cells #[.int .i64 E, .int .i64 (A2 : Nat)] 26))
      have HV1 := Lib.hid (WdsAt.move HU1.out (K' := All) (Moves.trans (moves_weak w1 fun _ _ _ => trivial) (Below.moves (below_trans (below_alloc w1 (.cells #[.int .i64 E, .int .i64 (A : Nat)] 26)) (below_trans hb2 hb3)))))
      have HV2 := Lib.hid (WdsAt.move hu2 (K' := All) (Moves.trans (moves_weak w2 fun _ _ _ => trivial) (Below.moves hb3)))
      have HB3 := Lib.hid (below_trans HB1.out (below_trans (below_alloc w1 _) (below_trans hb2 hb3)))
      obtain ⟨la2, lc2, rfl, -, -⟩ := WdsAt.form hu2
      rw [hlen] at HV2 ⊢
      clear hu2 hb2 hb3 HU1 HB1 HS1 HS2 hlt'
      go_upto_region 12 with fail
      generalize w2.alloc (.cells #[.int .i64 E, .int .i64 (A2 : Nat)] 26) = w4 at *
      go_wp2
      go_loopg [13] (V.length) (fun g i wr => ∃ k : Nat, k ≤ V.length ∧ g = V.length - k ∧ i = .int .i64 k ∧ Hid (Below w4.heap.size w4 wr))
      case atStart => exact ⟨0, Nat.zero_le _, rfl, rfl, Below.refl _ _⟩
      case round =>
        obtain ⟨j, hj, hg, rfl, HB⟩ := hrel
        by_cases hlt : j < V.length
        · obtain ⟨b, o, rfl, -, -, c1, -⟩ := WdsAt.get (WdsAt.move HV1.out (Below.moves HB.out)) j hlt
          obtain ⟨b', o', rfl, -, -, d1, -⟩ := WdsAt.get (WdsAt.move HV2.out (Below.moves HB.out)) j (by omega)
          rw [txs_at HQ.out j (by omega) hlt] at d1
          generalize mk V[j].1 = x at *
          go_wp2
          go_region
          all_goals
            go_wp2
            go_roundg (V.length - (j + 1))
            case rel => exact ⟨j + 1, by omega, rfl, by go_num, Below.drew HB.out⟩
            case measure => omega
        · go_wp2_with (go_at_call 8; refine (HWK.out _).mono ?_; rintro e w6 ⟨rfl, hb6⟩; have HB6 := Lib.hid (below_trans (below_trans HB3.out HB.out) hb6); clear hb6)
          go_ret
          exact ⟨rfl, HB6.out⟩

/-! ### the row's step -/
theorem laidOut : laidOutB Try.prog = true := by kernel_rfl
set_option maxRecDepth 100000 in
theorem lifted (os : Os) (started : os.Started) (H : Type) (enc : TypeId × Value → H) :
    ReturnsInHanded {} Try.checked os 6 .any (Rows.wordsBlanksSpec.pre6 enc Try.prog Try.f6 Rows.wordsBlanksRow.domain false) (Rows.wordsBlanksSpec.post enc Try.prog Try.f6 false true false false) := by
  refine returnsInHanded_of_change (C := Try.checked) own started (by kernel_rfl) Try.func6
    (ChangeSpec.witness6 (enc := enc) (C := Try.checked) false ⟨#[], #[.string ByteArray.empty, .string ByteArray.empty, .int .u8 0], []⟩ 8 (by kernel_rfl) (by kernel_rfl) (by kernel_rfl) (by kernel_rfl)) ?_
  intro W base args ds gs before hval0 hW hcnd _
  have hval : ∀ (j : Nat) t v, Try.f6.params[j]? = some t → args[j]? = some v → Value.okWide Try.prog W .any base t v := hval0
  have hW' := hW
  obtain ⟨p, q, hA0, hV, rfl, hfz, hnd⟩ := hW
  have hA : DataW.TrodAll enc Try.prog W 0 (fun _ => true) true Try.f6.params.toList args.toList ds p := hA0
  rw [Try.params6] at hA hval
  obtain ⟨v0, vs0, d0, ds0, p0, q0, hargs, rfl, rfl, h0, r0⟩ := trodAll_cons hA
  obtain ⟨v1, vs1, d1, ds1, p1, q1, rfl, rfl, rfl, h1, r1⟩ := trodAll_cons r0
  obtain ⟨v2, vs2, d2, ds2, p2, q2, rfl, rfl, rfl, h2, r2⟩ := trodAll_cons r1
  obtain ⟨rfl, rfl, rfl⟩ := trodAll_nil r2
  obtain rfl : args = #[v0, v1, v2] := by cases args; simp_all
  obtain ⟨rfl, rfl⟩ := trodVars_none hV
  have k0 := h0
  have lt0 : ∀ x ∈ p0, x.block < W.heap.size := by obtain ⟨m, hm⟩ := k0; exact DataW.trod_lt m _ _ _ hm
  obtain ⟨a0, rfl, _, _, w0⟩ := open_string Try.underlying9 (hval 0 9 v0 rfl rfl) h0
  have k1 := h1
  have lt1 : ∀ x ∈ p1, x.block < W.heap.size := by obtain ⟨m, hm⟩ := k1; exact DataW.trod_lt m _ _ _ hm
  obtain ⟨a1, rfl, _, _, w1⟩ := open_string Try.underlying9 (hval 1 9 v1 rfl rfl) h1
  obtain ⟨a2, rfl, rfl, rfl, w2⟩ := open_int Try.underlying5 (hval 2 5 v2 rfl rfl) h2
  clear hA0 hval0
  refine (walk W a0 w0 a1 w1 a2 w2).mono fun e W' ⟨he, bel⟩ => ?_
  subst he
  exact ⟨_, rfl, _, _, _, [], _, [], hW', (trodAll_cons_mk (shut_bool Try.underlying4 _) trodAll_mk0), (trodAll_cons_mk (Below.trod laidOut (by kernel_rfl) (of_decide_eq_true (by kernel_rfl)) k0 bel lt0) (trodAll_cons_mk (Below.trod laidOut (by kernel_rfl) (of_decide_eq_true (by kernel_rfl)) k1 bel lt1) (trodAll_cons_mk (shut_int Try.underlying5 w2) trodAll_mk0))), rfl, bel.frame _, fun h => by cases h⟩

theorem over : Rows.wordsBlanksRow.holds Try.pinned (OpenSpec.ofChange Rows.wordsBlanksSpec) :=
  OpenClaim.holds_of_wide 6 Try.f6 rfl rfl rfl rfl rfl rfl rfl ⟨rfl, rfl, rfl, rfl, rfl⟩ rfl rfl rfl rfl rfl (by kernel_rfl) Try.func6 (by kernel_rfl)
    (of_decide_eq_true (by kernel_rfl)) (by unfold Func.isWrapper; first | (rw [if_pos (by decide +kernel)]; kernel_rfl) | (rw [if_neg (by decide +kernel)]; exact ⟨rfl, rfl⟩))
    (fun os started H enc _ => lifted os started H enc)

/-- The statement. -/
theorem proved : Rows.WordsBlanksSaid := over
end Go.Proofs.Ytlabekdigehnnaa.wordsBlanks
namespace Go.Proofs.Ytlabekdigehnnaa
theorem wordsBlanks_holds : Rows.WordsBlanksSaid := wordsBlanks.proved
#print axioms wordsBlanks_holds
end Go.Proofs.Ytlabekdigehnnaa
