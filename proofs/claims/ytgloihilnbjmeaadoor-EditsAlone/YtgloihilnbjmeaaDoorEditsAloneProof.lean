/-
  EditsAlone holds for every table, for all services and every number: a service that stands alone on its day is denied for its units alone.
-/
import Derived.Test.YtgloihilnbjmeaaDoorRows
import Derived.WalkKit
import Derived.ProofKit
import Derived.OpenShut
import Derived.ShutString
import Derived.Below
import Derived.Carry
import Derived.LaidMore
import Derived.Stop.Joined
import Derived.SevenTiedAt
import Derived.Deep.DeepCutAuto
import Derived.Test.YtgloihilnbjmeaaDoorXTools
import Derived.Test.YtgloihilnbjmeaaDoorXOpen
import Derived.Test.YtgloihilnbjmeaaDoorTie
import Derived.Test.YtgloihilnbjmeaaDoorCards
namespace Go.Proofs.YtgloihilnbjmeaaDoor.editsAlone
open Go.ChangeShapes Go.WideShapes Go.ChangeAt Go.RowKit
open Xo
open Ex
open Cm (Ln LnsAt lnv LnOk)
open Wo (Wd WdsAt box_cell box_two keepB heap_far below_alloc below_trans)
open Go.ChangeMaps (open_string)
set_option linter.unusedVariables false
set_option linter.unusedSimpArgs false


theorem own : ownKnob Tryd.prog.godebug = none := by kernel_rfl

/-! ### the walk: the law returns true -/
set_option maxHeartbeats 8000000 in
theorem walk (w : World) (v0 : Value) (l0 : List Ed) (h0 : EdsAt All w v0 l0) (n0 : l0.length ≤ 281474976710656) (z0 : ∀ f ∈ l0, EdOk f) (v1 : Value) (l1 : List Ln) (h1 : LnsAt All w v1 l1) (n1 : l1.length ≤ 281474976710656) (z1 : ∀ f ∈ l1, LnOk f) (a2 : Int) (w2 : (Lit.int .i64 a2).wf = true) (hT : Nu.Tab w) :
    Calls Tryd.prog 7 #[v0, v1, .int .i64 a2] w fun e w' => e = .returned (.bool true) ∧ Below w.heap.size w w' := by
  have HWk : Hid (∀ W, Below w.heap.size w W → Calls Tryd.prog 10 #[] W fun e w' => e = .returned (.bool true) ∧ Below W.heap.size W w') := fun W hW => works_any W (Nu.tab_grw hT hW)
  have HB0 := Lib.hid (Below.refl w.heap.size w)
  have HLt := Lib.hid (light_any l0 v0 l1 v1 w h0 h1 z0 n0 n1 z1)
  have HD1 := Lib.hid fun W (hW : Below w.heap.size w W) => deny_any l0 v0 l1 v1 a2 W (h0.grw hW) (lns_grw h1 hW) n0 n1
  have HL := Lib.hid h1
  obtain ⟨fa, fk, rfl, -, -⟩ := h0.form
  obtain ⟨la, lk, rfl, -, -⟩ := Cm.LnsAt.form h1
  clear h0 h1 z0 z1 hT
  by_cases hi0 : a2 < 0
  · go_enter Tryd.func7, Tryd.ntmps7
    go_wp2_with fail
    go_at_call 9
    refine HLt.out.mono ?_
    rintro e w1 ⟨⟨bl, rfl, hbl⟩, hb1⟩
    have HB1 := Lib.hid hb1
    clear hb1 HLt
    clear HD1
    cases bl with
    | false =>
      clear hbl
      go_wp2_with (go_at_call 10; refine (HWk.out _ HB1.out).mono ?_; rintro e w9 ⟨rfl, hb9⟩; have HB9 := Lib.hid (below_trans HB1.out hb9); clear hb9)
      go_ret
      exact ⟨rfl, HB9.out⟩
    | true =>
      clear hbl
      go_wp2_with (go_at_call 10; refine (HWk.out _ HB1.out).mono ?_; rintro e w9 ⟨rfl, hb9⟩; have HB9 := Lib.hid (below_trans HB1.out hb9); clear hb9)
      go_ret
      exact ⟨rfl, HB9.out⟩
  have hi0d : decide (a2 < 0) = false := decide_eq_false hi0
  by_cases hi1 : (l1.length : Int) ≤ a2
  · go_enter Tryd.func7, Tryd.ntmps7
    go_wp2_with fail
    go_at_call 9
    refine HLt.out.mono ?_
    rintro e w1 ⟨⟨bl, rfl, hbl⟩, hb1⟩
    have HB1 := Lib.hid hb1
    clear hb1 HLt
    clear HD1
    cases bl with
    | false =>
      clear hbl
      go_wp2_with (go_at_call 10; refine (HWk.out _ HB1.out).mono ?_; rintro e w9 ⟨rfl, hb9⟩; have HB9 := Lib.hid (below_trans HB1.out hb9); clear hb9)
      go_ret
      exact ⟨rfl, HB9.out⟩
    | true =>
      clear hbl
      go_wp2_with (go_at_call 10; refine (HWk.out _ HB1.out).mono ?_; rintro e w9 ⟨rfl, hb9⟩; have HB9 := Lib.hid (below_trans HB1.out hb9); clear hb9)
      go_ret
      exact ⟨rfl, HB9.out⟩
  have hi1d : decide ((l1.length : Int) ≤ a2) = false := decide_eq_false hi1
  clear w2
  obtain ⟨i, rfl⟩ : ∃ n : Nat, a2 = (n : Int) := ⟨a2.toNat, by omega⟩
  have hi : i < l1.length := by omega
  have hiz : (i : Int) < (l1.length : Int) := by omega
  have HI := Lib.hid (List.getElem?_eq_getElem hi)
  generalize l1[i] = x at *
  have HAl : Hid ((∀ (j : Nat) b, l1[j]? = some b → j ≠ i → b.date ≠ x.date) → denyV l0 l1 (i : Int) = 0 ∨ denyV l0 l1 (i : Int) = 151) := fun h => by
    rw [deny_at HI.out]
    exact deny_alone l1 i x h l0
  generalize denyV l0 l1 (i : Int) = R at *
  go_enter Tryd.func7, Tryd.ntmps7
  go_wp2_with fail
  go_at_call 9
  refine HLt.out.mono ?_
  rintro e w1 ⟨⟨bl, rfl, hbl⟩, hb1⟩
  have HB1 := Lib.hid hb1
  clear hb1 HLt
  cases bl with
  | false =>
    clear hbl HD1
    go_wp2_with (go_at_call 10; refine (HWk.out _ HB1.out).mono ?_; rintro e w9 ⟨rfl, hb9⟩; have HB9 := Lib.hid (below_trans HB1.out hb9); clear hb9)
    go_ret
    exact ⟨rfl, HB9.out⟩
  | true =>
  clear hbl
  go_wp2
  go_loopg [7] (l1.length) (fun g s7 wr => ∃ (n q : Nat), n ≤ l1.length ∧ g = l1.length - n ∧ s7 = .int .i64 (n : Nat) ∧ wr = w1.drewN q ∧ Hid (∀ (j : Nat) b, l1[j]? = some b → j < n → j ≠ i → b.date ≠ x.date))
  case atStart => exact ⟨0, 0, Nat.zero_le _, rfl, rfl, rfl, fun j b _ h => absurd h (Nat.not_lt_zero _)⟩
  case round =>
    obtain ⟨n, q, hn, hgk, rfl, rfl, HA⟩ := hrel
    have HBq : Hid (Below w.heap.size w (w1.drewN q)) := HB1.out.trans ⟨rfl, rfl, rfl, Nat.le_refl _, fun _ _ => rfl⟩
    by_cases hlt : n < l1.length
    rotate_left
    · have hltz : ¬ (n : Int) < (l1.length : Int) := by omega
      have hR := HAl.out fun j b hj hne => HA.out j b hj (by have := (List.getElem?_eq_some_iff.1 hj).1; omega) hne
      have HRR := Lib.hid hR
      clear hR HA HAl
      go_wp2_with fail
      go_at_call 18
      refine (HD1.out _ HBq.out).mono ?_
      rintro e w2 ⟨rfl, hb2⟩
      have HB2 := Lib.hid (below_trans HBq.out hb2)
      clear hb2 HD1
      rcases HRR.out with rfl | rfl
      · clear HRR
        go_wp2_with (go_at_call 10; refine (HWk.out _ HB2.out).mono ?_; rintro e w9 ⟨rfl, hb9⟩; have HB9 := Lib.hid (below_trans HB2.out hb9); clear hb9)
        go_ret
        exact ⟨rfl, HB9.out⟩
      · clear HRR
        go_wp2_with (go_at_call 10; refine (HWk.out _ HB2.out).mono ?_; rintro e w9 ⟨rfl, hb9⟩; have HB9 := Lib.hid (below_trans HB2.out hb9); clear hb9)
        go_ret
        exact ⟨rfl, HB9.out⟩
    have hltz : (n : Int) < (l1.length : Int) := by omega
    have HIz := Lib.hid (List.getElem?_eq_getElem hlt)
    generalize l1[n] = z at *
    obtain ⟨b, oo, rfl⟩ := lns_addr HL.out HI.out
    have HLq := Lib.hid (lns_grw HL.out HB1.out)
    obtain ⟨zm, ⟨z0, z1, z2, z3, z4, z5⟩, -⟩ := li_get HLq.out HIz.out
    obtain ⟨xm, ⟨y0, y1, y2, y3, y4, y5⟩, -⟩ := li_get HLq.out HI.out
    have HSt : Hid ((n = i ∨ z.date ≠ x.date) → ∀ (j : Nat) b, l1[j]? = some b → j < n + 1 → j ≠ i → b.date ≠ x.date) := fun h j b hj hlt2 hne => by
      rcases Nat.lt_or_ge j n with h1 | h1
      · exact HA.out j b hj h1 hne
      · have : j = n := by omega
        subst this
        have : z = b := Option.some.inj (HIz.out.symm.trans hj)
        subst this
        rcases h with h | h
        · exact absurd h hne
        · exact h
    clear HA HLq
    by_cases hni : n = i
    · have HS := Lib.hid (HSt.out (Or.inl hni))
      clear HSt
      subst hni
      go_wp2_with fail
      go_quiet (fail)
      go_wp2
      go_roundg (l1.length - (n + 1))
      case measure => omega
      case rel => exact rel_al HS.out (by omega) (by first | exact ⟨_, rfl⟩ | exact dq_drew ⟨_, rfl⟩ _)
    have hniz : ((n : Int) != (i : Int)) = true := by simp; omega
    have hniz' : ((n : Int) == (i : Int)) = false := by rw [beq_eq_false_iff_ne]; omega
    by_cases hda : z.date = x.date
    · obtain ⟨V, hV, hdz⟩ : ∃ V : Bool, V = true ∧ (z.date == x.date) = V := ⟨_, by rw [hda]; simp, rfl⟩
      clear hda HSt
      go_wp2_with fail
      go_quiet (fail)
      have HBr : Hid (Below w.heap.size w ((w1.drewN q).drewN nq)) := HBq.out.trans ⟨rfl, rfl, rfl, Nat.le_refl _, fun _ _ => rfl⟩
      have HBr2 : Hid (Below w.heap.size w (w1.drewN (q + nq))) := by have := HBr.out; rw [World.drewN_drewN] at this; exact this
      go_wp2_with (first | (go_at_call 10; refine (HWk.out _ HBr.out).mono ?_; rintro e w9 ⟨rfl, hb9⟩; have HB9 := Lib.hid (below_trans HBr.out hb9); clear hb9) | (go_at_call 10; refine (HWk.out _ HBr2.out).mono ?_; rintro e w9 ⟨rfl, hb9⟩; have HB9 := Lib.hid (below_trans HBr2.out hb9); clear hb9))
      go_ret
      exact ⟨rfl, HB9.out⟩
    · have HS := Lib.hid (HSt.out (Or.inr hda))
      have hdz : (z.date == x.date) = false := by rw [beq_eq_false_iff_ne]; exact hda
      clear hda HSt
      go_wp2_with fail
      go_quiet (fail)
      go_wp2
      go_roundg (l1.length - (n + 1))
      case measure => omega
      case rel => exact rel_al HS.out (by omega) (by first | exact ⟨_, rfl⟩ | exact dq_drew ⟨_, rfl⟩ _)

/-! ### the row's step -/
theorem laidOut : laidOutB Tryd.prog = true := by kernel_rfl
set_option maxRecDepth 100000 in
theorem lifted (os : Os) (started : os.Started) (H : Type) (enc : TypeId × Value → H) :
    ReturnsInHanded {} Tryd.checked os 7 .any (fun w args => (Rows.editsAloneSpec.pre enc Tryd.prog Tryd.f7 [] false w args ∧ laidMetH Tryd.prog laidL w) ∧ sizedMet enc Tryd.prog Tryd.f7 (OpenSpec.ofChange Rows.editsAloneSpec) false w args) (Rows.editsAloneSpec.post enc Tryd.prog Tryd.f7 false true false false) := by
  refine lift own started (by kernel_rfl) Tryd.func7
    (ChangeSpec.witness_shaped (enc := enc) (C := Tryd.checked) (os := os) (X := fun w _ => laidMetH Tryd.prog laidL w) false (World.laidAll Tryd.prog os laidL) #[.slice none 0 0, .slice none 0 0, .int .i64 0] 8 (World.laidAll_os _ _ _)
      (World.shaped_of_ZipB (by kernel_rfl) (by kernel_rfl)) (by kernel_rfl) (by kernel_rfl) (by kernel_rfl)
      (by rw [MakeChecks.laidMetH_plain _ _ _ (by kernel_rfl)]; exact laidMet_laidAll _ (by kernel_rfl) (by kernel_rfl))) ?_
  intro W base args ds gs before hval0 hW hwt hT
  have hval : ∀ (j : Nat) t v, Tryd.f7.params[j]? = some t → args[j]? = some v → Value.okWide Tryd.prog W .any base t v := hval0
  have hW' := hW
  obtain ⟨p, q, hA0, hV, rfl, hfz, hnd⟩ := hW
  have hA : DataW.TrodAll enc Tryd.prog W 0 (fun _ => true) true Tryd.f7.params.toList args.toList ds p := hA0
  rw [Tryd.params7] at hA hval hwt
  obtain ⟨v0, vs0, d0, ds0, p0, q0, hargs, rfl, rfl, h0, r0⟩ := trodAll_cons hA
  obtain ⟨v1, vs1, d1, ds1, p1, q1, rfl, rfl, rfl, h1, r1⟩ := trodAll_cons r0
  obtain ⟨v2, vs2, d2, ds2, p2, q2, rfl, rfl, rfl, h2, r2⟩ := trodAll_cons r1
  obtain ⟨rfl, rfl, rfl⟩ := trodAll_nil r2
  obtain rfl : args = #[v0, v1, v2] := by cases args; simp_all
  obtain ⟨rfl, rfl⟩ := trodVars_none hV
  have hwl : ∀ z, (z ∈ d0.weights Tryd.prog 22 → z ≤ reachBytes) ∧ (z ∈ d1.weights Tryd.prog 37 → z ≤ reachBytes) ∧ (z ∈ d2.weights Tryd.prog 3 → z ≤ reachBytes) := fun z => by
    have h := List.all_eq_true.1 hwt z
    simp only [decide_eq_true_eq] at h
    refine ⟨fun hz => h ?_, fun hz => h ?_, fun hz => h ?_⟩
    all_goals
      simp only [List.cons_append, List.nil_append, List.toList_toArray, List.append_nil, DataW.weightsEach, List.mem_append]
      simp [hz]
  have k0 := h0
  have lt0 : ∀ x ∈ p0, x.block < W.heap.size := by obtain ⟨m, hm⟩ := k0; exact DataW.trod_lt m _ _ _ hm
  obtain ⟨l0, g0, n0, z0⟩ := open_edits (okWide_slice Tryd.underlying22 (hval 0 22 v0 rfl rfl)) h0 (fun z hz => (hwl z).1 hz)
  have k1 := h1
  have lt1 : ∀ x ∈ p1, x.block < W.heap.size := by obtain ⟨m, hm⟩ := k1; exact DataW.trod_lt m _ _ _ hm
  obtain ⟨l1, g1, n1, z1⟩ := open_lns (okWide_slice Tryd.underlying37 (hval 1 37 v1 rfl rfl)) h1 (fun z hz => (hwl z).2.1 hz)
  have k2 := h2
  have lt2 : ∀ x ∈ p2, x.block < W.heap.size := by obtain ⟨m, hm⟩ := k2; exact DataW.trod_lt m _ _ _ hm
  obtain ⟨a2, rfl, _, _, w2⟩ := open_int Tryd.underlying3 (hval 2 3 v2 rfl rfl) h2
  clear hA0 hval0
  refine (walk W v0 l0 g0 n0 z0 v1 l1 g1 n1 z1 a2 w2 hT).mono fun e W' ⟨he, bel⟩ => ?_
  subst he
  exact ⟨_, rfl, _, _, _, [], _, [], hW', (trodAll_cons_mk (shut_bool Tryd.underlying4 _) trodAll_mk0), (trodAll_cons_mk (Below.trod laidOut (by kernel_rfl) (of_decide_eq_true (by kernel_rfl)) k0 bel lt0) (trodAll_cons_mk (Below.trod laidOut (by kernel_rfl) (of_decide_eq_true (by kernel_rfl)) k1 bel lt1) (trodAll_cons_mk (Below.trod laidOut (by kernel_rfl) (of_decide_eq_true (by kernel_rfl)) k2 bel lt2) trodAll_mk0))), rfl, bel.frame _, fun h => by cases h⟩

theorem over : Rows.editsAloneRow.holds Tryd.pinned (OpenSpec.ofChange Rows.editsAloneSpec) :=
  OpenClaim.holds_of_wide 7 Tryd.f7 rfl rfl rfl rfl rfl rfl rfl ⟨rfl, rfl, rfl, rfl, rfl⟩ rfl rfl rfl rfl rfl (by kernel_rfl) Tryd.func7 (by kernel_rfl)
    (of_decide_eq_true (by kernel_rfl)) (by unfold Func.isWrapper; first | (rw [if_pos (by decide +kernel)]; kernel_rfl) | (rw [if_neg (by decide +kernel)]; exact ⟨rfl, rfl⟩))
    (fun os started H enc _ => lifted os started H enc)

/-- The row's statement. -/
theorem proved : Rows.EditsAloneSaid := over
end Go.Proofs.YtgloihilnbjmeaaDoor.editsAlone
namespace Go.Proofs.YtgloihilnbjmeaaDoor
theorem editsAlone_holds : Rows.EditsAloneCardSaid :=
  Claim7.holds_tied_plain_at .later [] [.data, .data, .data] true (true, "b44c92bab4fb646ddc684cfa4b24097984c9645ac2fd34c5cae9cfe79b4f134b") false
    editsAlone.proved (fun _ h => by cases h) (by kernel_rfl) (fun _ h => by cases h) editsAlone_row_tie rfl ⟨rfl, rfl⟩ (by kernel_rfl) rfl
    (fun f fn hf hfn => by
      obtain rfl : f = 7 := Option.some.inj ((show Tryd.prog.funcNamed "leechbook/leechbooklaw13.EditsAlone" = some 7 by kernel_rfl).symm.trans hf) |>.symm
      obtain rfl : fn = Tryd.f7 := (Option.some.inj (Tryd.func7.symm.trans hfn)).symm
      exact ⟨by kernel_rfl, fun j t ht => by
        rw [Tryd.params7] at ht
        have hm : t ∈ [22, 37, 3] := by simpa using Array.mem_of_getElem? ht
        have hall : ([22, 37, 3].all fun u => !Tryd.prog.wantsStandIn u) = true := by kernel_rfl
        exact (show Tryd.prog.wantsStandIn t = false by simpa using List.all_eq_true.1 hall t hm)⟩)
    (by kernel_rfl)
#print axioms editsAlone_holds
end Go.Proofs.YtgloihilnbjmeaaDoor
