/-
  EditsBack holds for every table and every text: a table that may be, printed, is parsed again as what it was; what is parsed may be.
-/
import Derived.Test.YtgloihilnbjmeaaDoorRows
import Derived.WalkKit
import Derived.ProofKit
import Derived.OpenShut
import Derived.ShutString
import Derived.Below
import Derived.Carry
import Derived.LaidMore
import Derived.Stop.Joined
import Derived.SevenTiedAt
import Derived.Deep.DeepCutAuto
import Derived.Test.YtgloihilnbjmeaaDoorXTools
import Derived.Test.YtgloihilnbjmeaaDoorXOpen
import Derived.Test.YtgloihilnbjmeaaDoorTie
import Derived.Test.YtgloihilnbjmeaaDoorCards
namespace Go.Proofs.YtgloihilnbjmeaaDoor.editsBack
open Go.ChangeShapes Go.WideShapes Go.ChangeAt Go.RowKit
open Xo
open Ex
open Cm (Ln LnsAt lnv LnOk)
open Wo (Wd WdsAt box_cell box_two keepB heap_far below_alloc below_trans)
open Go.ChangeMaps (open_string)
set_option linter.unusedVariables false
set_option linter.unusedSimpArgs false


theorem own : ownKnob Tryd.prog.godebug = none := by kernel_rfl

/-! ### the walk: the law returns true -/
set_option maxHeartbeats 8000000 in
theorem walk (w : World) (v0 : Value) (l0 : List Ed) (h0 : EdsAt All w v0 l0) (n0 : l0.length ≤ 281474976710656) (z0 : ∀ f ∈ l0, EdOk f) (a1 : ByteArray) (w1 : a1.size ≤ maxLen) (hT : Nu.Tab w) :
    Calls Tryd.prog 5 #[v0, .string a1] w fun e w' => e = .returned (.bool true) ∧ Below w.heap.size w w' := by
  have HWk : Hid (∀ W, Below w.heap.size w W → Calls Tryd.prog 10 #[] W fun e w' => e = .returned (.bool true) ∧ Below W.heap.size W w') := fun W hW => works_any W (Nu.tab_grw hT hW)
  have HB0 := Lib.hid (Below.refl w.heap.size w)
  have HLt := Lib.hid (light_any l0 v0 [] (.slice none 0 0) w h0 (lns_none _) z0 n0 (by simp) (by simp))
  have HPs := Lib.hid fun W => parse_any a1 W w1
  have HMay : Hid (resE (paR a1.data.toList) = 0 → checkE (resL (paR a1.data.toList)) = 0) := fun h => by
    cases hp : paR a1.data.toList with
    | ok l => exact text_once hp
    | error x => rw [hp] at h; exact absurd h (par_ne hp)
  have HOkP : Hid (∀ f ∈ resL (paR a1.data.toList), EdOk f) := fun f hf => by
    cases hp : paR a1.data.toList with
    | ok l => rw [hp] at hf; exact ok_of_one ((check_facts (text_once hp)).2 f hf)
    | error x => rw [hp] at hf; cases hf
  have HLnP : Hid ((resL (paR a1.data.toList)).length ≤ 256) := by
    cases hp : paR a1.data.toList with
    | ok l => exact (check_facts (text_once hp)).1
    | error x => exact Nat.zero_le _
  have HCk := Lib.hid fun W v (hv : EdsAt All W v (resL (paR a1.data.toList))) => check_any (resL (paR a1.data.toList)) v W hv HOkP.out (Nat.le_trans HLnP.out (by decide))
  unfold ParV at HPs
  generalize resL (paR a1.data.toList) = PL at *
  generalize resE (paR a1.data.toList) = E at *
  generalize resA (paR a1.data.toList) = A at *
  have HPr := Lib.hid fun W (hW : Below w.heap.size w W) => print_any l0 v0 W (h0.grw hW) z0 n0 (Nu.tab_grw hT hW)
  have HF := Lib.hid h0
  have HN0 := Lib.hid n0
  have HPa : Hid (checkE l0 = 0 → ∀ W : World, Calls Tryd.prog 15 #[.string (mk (prV l0))] W fun e w' => (∃ (a : Option Addr) (c : Nat), e = .returned (.tuple #[.slice a l0.length c, .agg #[.int .i64 0, .int .i64 0]]) ∧ EdsAt All w' (.slice a l0.length c) l0) ∧ Below W.heap.size W w') := fun hE W => by
    have hz := tab_size l0 (check_facts hE).2
    have hj := Pl.join_size (tabW l0)
    have hl := (check_facts hE).1
    have hpv : (prV l0).length ≤ 30000 := by unfold prV; rw [if_pos hE]; unfold prT; omega
    have := parse_any (mk (prV l0)) W (by rw [mk_size]; unfold maxLen; omega)
    rw [mk_list, text_back hE] at this
    exact this
  have HEm : Hid (¬ checkE l0 = 0 → prV l0 = []) := fun h => by unfold prV; rw [if_neg h]
  obtain ⟨fa, fk, rfl, -, -⟩ := h0.form
  clear h0 z0 n0 hT HOkP HLnP
  by_cases hl : 8000 < a1.size
  · have hl' : (8000 : Int) < (a1.size : Int) := by omega
    go_enter Tryd.func5, Tryd.ntmps5
    go_wp2_with fail
    go_at_call 9
    refine HLt.out.mono ?_
    rintro e w1 ⟨⟨bl, rfl, hbl⟩, hb1⟩
    have HB1 := Lib.hid hb1
    clear hb1 HLt
    clear HPs HMay HCk HPr HPa HEm
    cases bl with
    | false =>
      clear hbl
      go_wp2_with (go_at_call 10; refine (HWk.out _ HB1.out).mono ?_; rintro e w9 ⟨rfl, hb9⟩; have HB9 := Lib.hid (below_trans HB1.out hb9); clear hb9)
      go_ret
      exact ⟨rfl, HB9.out⟩
    | true =>
      clear hbl
      go_wp2_with (go_at_call 10; refine (HWk.out _ HB1.out).mono ?_; rintro e w9 ⟨rfl, hb9⟩; have HB9 := Lib.hid (below_trans HB1.out hb9); clear hb9)
      go_ret
      exact ⟨rfl, HB9.out⟩
  have hl' : ¬ (8000 : Int) < (a1.size : Int) := by omega
  have hld : decide ((8000 : Int) < (a1.size : Int)) = false := decide_eq_false hl'
  clear hl
  go_enter Tryd.func5, Tryd.ntmps5
  go_wp2_with fail
  go_at_call 9
  refine HLt.out.mono ?_
  rintro e w1 ⟨⟨bl, rfl, hbl⟩, hb1⟩
  have HB1 := Lib.hid hb1
  clear hb1 HLt
  cases bl with
  | false =>
    clear hbl HPs HMay HCk HPr HPa HEm
    go_wp2_with (go_at_call 10; refine (HWk.out _ HB1.out).mono ?_; rintro e w9 ⟨rfl, hb9⟩; have HB9 := Lib.hid (below_trans HB1.out hb9); clear hb9)
    go_ret
    exact ⟨rfl, HB9.out⟩
  | true =>
  clear hbl
  go_wp2_with fail
  go_at_call 15
  refine (HPs.out _).mono ?_
  rintro e w2 ⟨⟨pa, pc, rfl, hr⟩, hb2⟩
  have hb3 := below_alloc w2 (.cells #[.int .i64 E, .int .i64 (A : Nat)] 31)
  have HB3 := Lib.hid (below_trans HB1.out (below_trans hb2 hb3))
  have HG3 := Lib.hid (heap_alloc_new w2 (.cells #[.int .i64 E, .int .i64 (A : Nat)] 31))
  have HR3 := Lib.hid (hr.grw hb3)
  clear hb2 hb3 hr HPs
  go_upto_region 4 with fail
  generalize w2.alloc (.cells #[.int .i64 E, .int .i64 (A : Nat)] 31) = W3 at *
  generalize w2.heap.size = b2 at *
  obtain ⟨g0, g1, -, -⟩ := box_two HG3.out
  go_cut [32] (fun s32 wx => s32 = .bool false ∧ Hid (Below w.heap.size w wx))
  case first =>
    clear HPr HPa HEm
    by_cases hE : E = 0
    · have HC := Lib.hid (HCk.out W3 _ HR3.out)
      rw [HMay.out hE] at HC
      have q0 : (E == 0) = true := by rw [hE]; rfl
      obtain ⟨V, hV, q0⟩ : ∃ V : Bool, V = true ∧ (E == 0) = V := ⟨_, q0, rfl⟩
      clear hE HMay HCk
      go_wp2_with (go_at_call 13; refine HC.out.mono ?_; rintro e w4 ⟨rfl, hb4⟩; have HB4 := Lib.hid (below_trans HB3.out hb4); clear hb4)
      go_meet
      exact ⟨rfl, HB4.out⟩
    · have q0 : (E == 0) = false := by rw [beq_eq_false_iff_ne]; exact hE
      clear hE HMay HCk
      go_wp2
      go_meet
      exact ⟨rfl, HB3.out⟩
  case rest =>
  obtain ⟨rfl, HB5⟩ := hcut
  obtain ⟨w5, hw5⟩ : ∃ z, z = wc := ⟨_, rfl⟩
  subst hw5
  clear HCk HMay HR3 HG3 g0 g1 HB3
  have HP5 := Lib.hid (HPr.out w5 HB5.out)
  have HF5 := Lib.hid (HF.out.grw HB5.out)
  clear HPr HF
  by_cases hE : checkE l0 = 0
  case neg =>
    have hne : (checkE l0 != 0) = true := by simpa using hE
    have HPr2 : Hid (Calls Tryd.prog 11 #[.slice fa l0.length fk] w5 fun e w' => e = .returned (.tuple #[.string ⟨#[]⟩, .int .i64 (checkE l0)]) ∧ Below w5.heap.size w5 w') := by
      have := HP5.out
      rw [HEm.out hE] at this
      exact this
    clear hE HP5 HPa HEm
    generalize checkE l0 = E0 at *
    go_wp2_with (first | (go_at_call 11; refine HPr2.out.mono ?_; rintro e w6 ⟨rfl, hb6⟩; have HB6 := Lib.hid (below_trans HB5.out hb6); clear hb6) | (go_at_call 10; refine (HWk.out _ HB6.out).mono ?_; rintro e w9 ⟨rfl, hb9⟩; have HB9 := Lib.hid (below_trans HB6.out hb9); clear hb9))
    go_ret
    exact ⟨rfl, HB9.out⟩
  have HP4 := Lib.hid (HPa.out hE)
  rw [hE] at HP5
  clear HPa HEm hE
  generalize mk (prV l0) = T at *
  go_wp2_with fail
  go_at_call 11
  refine HP5.out.mono ?_
  rintro e w6 ⟨rfl, hb6⟩
  have HB6 := Lib.hid (below_trans HB5.out hb6)
  have HF6 := Lib.hid (HF5.out.grw hb6)
  clear hb6 HP5 HF5
  go_wp2_with fail
  go_at_call 15
  refine (HP4.out _).mono ?_
  rintro e w7 ⟨⟨a, c, rfl, hr⟩, hb7⟩
  have hb8 := below_alloc w7 (.cells #[.int .i64 0, .int .i64 0] 31)
  have HR8 := Lib.hid (hr.grw hb8)
  have HF8 := Lib.hid (HF6.out.grw (below_trans hb7 hb8))
  have HB8 := Lib.hid (below_trans HB6.out (below_trans hb7 hb8))
  have HG8 := Lib.hid (heap_alloc_new w7 (.cells #[.int .i64 0, .int .i64 0] 31))
  clear hr hb7 hb8 HF6 HB6 HP4
  go_upto_region 10 with fail
  generalize w7.alloc (.cells #[.int .i64 0, .int .i64 0] 31) = W8 at *
  generalize w7.heap.size = b7 at *
  obtain ⟨z0, z1, -, -⟩ := box_two HG8.out
  have HS8 := Lib.hid (same_eq l0 _ _ W8 HF8.out HR8.out HN0.out)
  clear HF8 HR8 HN0
  go_wp2_with (first | (go_at_call 17; refine HS8.out.mono ?_; rintro e w5 ⟨rfl, hb5⟩; have HBZ := Lib.hid (below_trans HB8.out hb5); clear hb5) | (go_at_call 10; refine (HWk.out _ HBZ.out).mono ?_; rintro e w9 ⟨rfl, hb9⟩; have HB9 := Lib.hid (below_trans HBZ.out hb9); clear hb9))
  go_ret
  exact ⟨rfl, HB9.out⟩

/-! ### the row's step -/
theorem laidOut : laidOutB Tryd.prog = true := by kernel_rfl
set_option maxRecDepth 100000 in
theorem lifted (os : Os) (started : os.Started) (H : Type) (enc : TypeId × Value → H) :
    ReturnsInHanded {} Tryd.checked os 5 .any (fun w args => (Rows.editsBackSpec.pre enc Tryd.prog Tryd.f5 [] false w args ∧ laidMetH Tryd.prog laidL w) ∧ sizedMet enc Tryd.prog Tryd.f5 (OpenSpec.ofChange Rows.editsBackSpec) false w args) (Rows.editsBackSpec.post enc Tryd.prog Tryd.f5 false true false false) := by
  refine lift own started (by kernel_rfl) Tryd.func5
    (ChangeSpec.witness_shaped (enc := enc) (C := Tryd.checked) (os := os) (X := fun w _ => laidMetH Tryd.prog laidL w) false (World.laidAll Tryd.prog os laidL) #[.slice none 0 0, .string ByteArray.empty] 8 (World.laidAll_os _ _ _)
      (World.shaped_of_ZipB (by kernel_rfl) (by kernel_rfl)) (by kernel_rfl) (by kernel_rfl) (by kernel_rfl)
      (by rw [MakeChecks.laidMetH_plain _ _ _ (by kernel_rfl)]; exact laidMet_laidAll _ (by kernel_rfl) (by kernel_rfl))) ?_
  intro W base args ds gs before hval0 hW hwt hT
  have hval : ∀ (j : Nat) t v, Tryd.f5.params[j]? = some t → args[j]? = some v → Value.okWide Tryd.prog W .any base t v := hval0
  have hW' := hW
  obtain ⟨p, q, hA0, hV, rfl, hfz, hnd⟩ := hW
  have hA : DataW.TrodAll enc Tryd.prog W 0 (fun _ => true) true Tryd.f5.params.toList args.toList ds p := hA0
  rw [Tryd.params5] at hA hval hwt
  obtain ⟨v0, vs0, d0, ds0, p0, q0, hargs, rfl, rfl, h0, r0⟩ := trodAll_cons hA
  obtain ⟨v1, vs1, d1, ds1, p1, q1, rfl, rfl, rfl, h1, r1⟩ := trodAll_cons r0
  obtain ⟨rfl, rfl, rfl⟩ := trodAll_nil r1
  obtain rfl : args = #[v0, v1] := by cases args; simp_all
  obtain ⟨rfl, rfl⟩ := trodVars_none hV
  have hwl : ∀ z, (z ∈ d0.weights Tryd.prog 22 → z ≤ reachBytes) ∧ (z ∈ d1.weights Tryd.prog 9 → z ≤ reachBytes) := fun z => by
    have h := List.all_eq_true.1 hwt z
    simp only [decide_eq_true_eq] at h
    refine ⟨fun hz => h ?_, fun hz => h ?_⟩
    all_goals
      simp only [List.cons_append, List.nil_append, List.toList_toArray, List.append_nil, DataW.weightsEach, List.mem_append]
      simp [hz]
  have k0 := h0
  have lt0 : ∀ x ∈ p0, x.block < W.heap.size := by obtain ⟨m, hm⟩ := k0; exact DataW.trod_lt m _ _ _ hm
  obtain ⟨l0, g0, n0, z0⟩ := open_edits (okWide_slice Tryd.underlying22 (hval 0 22 v0 rfl rfl)) h0 (fun z hz => (hwl z).1 hz)
  have k1 := h1
  have lt1 : ∀ x ∈ p1, x.block < W.heap.size := by obtain ⟨m, hm⟩ := k1; exact DataW.trod_lt m _ _ _ hm
  obtain ⟨a1, rfl, _, _, w1⟩ := open_string Tryd.underlying9 (hval 1 9 v1 rfl rfl) h1
  clear hA0 hval0
  refine (walk W v0 l0 g0 n0 z0 a1 w1 hT).mono fun e W' ⟨he, bel⟩ => ?_
  subst he
  exact ⟨_, rfl, _, _, _, [], _, [], hW', (trodAll_cons_mk (shut_bool Tryd.underlying4 _) trodAll_mk0), (trodAll_cons_mk (Below.trod laidOut (by kernel_rfl) (of_decide_eq_true (by kernel_rfl)) k0 bel lt0) (trodAll_cons_mk (Below.trod laidOut (by kernel_rfl) (of_decide_eq_true (by kernel_rfl)) k1 bel lt1) trodAll_mk0)), rfl, bel.frame _, fun h => by cases h⟩

theorem over : Rows.editsBackRow.holds Tryd.pinned (OpenSpec.ofChange Rows.editsBackSpec) :=
  OpenClaim.holds_of_wide 5 Tryd.f5 rfl rfl rfl rfl rfl rfl rfl ⟨rfl, rfl, rfl, rfl, rfl⟩ rfl rfl rfl rfl rfl (by kernel_rfl) Tryd.func5 (by kernel_rfl)
    (of_decide_eq_true (by kernel_rfl)) (by unfold Func.isWrapper; first | (rw [if_pos (by decide +kernel)]; kernel_rfl) | (rw [if_neg (by decide +kernel)]; exact ⟨rfl, rfl⟩))
    (fun os started H enc _ => lifted os started H enc)

/-- The row's statement. -/
theorem proved : Rows.EditsBackSaid := over
end Go.Proofs.YtgloihilnbjmeaaDoor.editsBack
namespace Go.Proofs.YtgloihilnbjmeaaDoor
theorem editsBack_holds : Rows.EditsBackCardSaid :=
  Claim7.holds_tied_plain_at .later [] [.data, .data, .data] true (true, "b44c92bab4fb646ddc684cfa4b24097984c9645ac2fd34c5cae9cfe79b4f134b") false
    editsBack.proved (fun _ h => by cases h) (by kernel_rfl) (fun _ h => by cases h) editsBack_row_tie rfl ⟨rfl, rfl⟩ (by kernel_rfl) rfl
    (fun f fn hf hfn => by
      obtain rfl : f = 5 := Option.some.inj ((show Tryd.prog.funcNamed "leechbook/leechbooklaw13.EditsBack" = some 5 by kernel_rfl).symm.trans hf) |>.symm
      obtain rfl : fn = Tryd.f5 := (Option.some.inj (Tryd.func5.symm.trans hfn)).symm
      exact ⟨by kernel_rfl, fun j t ht => by
        rw [Tryd.params5] at ht
        have hm : t ∈ [22, 9] := by simpa using Array.mem_of_getElem? ht
        have hall : ([22, 9].all fun u => !Tryd.prog.wantsStandIn u) = true := by kernel_rfl
        exact (show Tryd.prog.wantsStandIn t = false by simpa using List.all_eq_true.1 hall t hm)⟩)
    (by kernel_rfl)
#print axioms editsBack_holds
end Go.Proofs.YtgloihilnbjmeaaDoor
