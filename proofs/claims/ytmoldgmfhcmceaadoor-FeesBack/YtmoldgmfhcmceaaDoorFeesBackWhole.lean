/-
  FeesBack holds for every table: one that may be, printed, is parsed again as what it was.
-/
import Derived.WalkKit
import Derived.ProofKit
import Derived.OpenShut
import Derived.ShutString
import Derived.Below
import Derived.Carry
import Derived.LaidMore
import Derived.Stop.Joined
import Derived.SevenTiedAt
import Derived.Deep.DeepCutAuto
import Derived.Test.YtmoldgmfhcmceaaDoorRows
import Derived.Test.YtmoldgmfhcmceaaDoorTie
import Derived.Test.YtmoldgmfhcmceaaDoorCards
import Derived.Test.YtmoldgmfhcmceaaDoorMb1
import Derived.Test.YtmoldgmfhcmceaaDoorMb2
import Derived.Test.YtmoldgmfhcmceaaDoorMb3
import Derived.Test.YtmoldgmfhcmceaaDoorMb4
import Derived.Test.YtmoldgmfhcmceaaDoorMb5
import Derived.Test.YtmoldgmfhcmceaaDoorMb6
import Derived.Test.YtmoldgmfhcmceaaDoorMb7
import Derived.Test.YtmoldgmfhcmceaaDoorMb8
import Derived.Test.YtmoldgmfhcmceaaDoorMb9
import Derived.Test.YtmoldgmfhcmceaaDoorMb10
import Derived.Test.YtmoldgmfhcmceaaDoorMb11
import Derived.Test.YtmoldgmfhcmceaaDoorMb12
import Derived.Test.YtmoldgmfhcmceaaDoorMb13
import Derived.Test.YtmoldgmfhcmceaaDoorMb14
import Derived.Test.YtmoldgmfhcmceaaDoorMb15
import Derived.Test.YtmoldgmfhcmceaaDoorMb16
import Derived.Test.YtmoldgmfhcmceaaDoorMb17
import Derived.Test.YtmoldgmfhcmceaaDoorMb18
import Derived.Test.YtmoldgmfhcmceaaDoorMb19
import Derived.Test.YtmoldgmfhcmceaaDoorMb20
import Derived.Test.YtmoldgmfhcmceaaDoorMb21
import Derived.Test.YtmoldgmfhcmceaaDoorMb22
import Derived.Test.YtmoldgmfhcmceaaDoorMb23
import Derived.Test.YtmoldgmfhcmceaaDoorMb24
import Derived.Test.YtmoldgmfhcmceaaDoorMb25
import Derived.Test.YtmoldgmfhcmceaaDoorMb26
import Derived.Test.YtmoldgmfhcmceaaDoorMb27
import Derived.Test.YtmoldgmfhcmceaaDoorMb28
import Derived.Test.YtmoldgmfhcmceaaDoorMb29
import Derived.Test.YtmoldgmfhcmceaaDoorMb30
import Derived.Test.YtmoldgmfhcmceaaDoorMb31
import Derived.Test.YtmoldgmfhcmceaaDoorMb32
import Derived.Test.YtmoldgmfhcmceaaDoorMb33
import Derived.Test.YtmoldgmfhcmceaaDoorMb34
namespace Go.Proofs.YtmoldgmfhcmceaaDoor.feesBack
open Go.ChangeShapes Go.WideShapes Go.ChangeAt Go.RowKit
open Fo
open Fe
open Cm (Ln lnv LnOk)
open Wo (Wd WdsAt box_cell box_two keepB heap_far below_alloc below_trans)
open Go.ChangeMaps (open_string)
set_option linter.unusedVariables false
set_option linter.unusedSimpArgs false


theorem own : ownKnob Tryd.prog.godebug = none := by kernel_rfl

/-! ### the walk: the law returns true -/
set_option maxHeartbeats 8000000 in
theorem walk (w : World) (v0 : Value) (l0 : List Fee) (h0 : FesAt All w v0 l0) (n0 : l0.length ≤ 281474976710656) (z0 : ∀ f ∈ l0, FeOk f) (hT : Nu.Tab w ∧ Da.Tab w) :
    Calls Tryd.prog 3 #[v0] w fun e w' => e = .returned (.bool true) ∧ Below w.heap.size w w' := by
  obtain ⟨hN, hD⟩ := hT
  have HWk : Hid (∀ W, Below w.heap.size w W → Calls Tryd.prog 6 #[] W fun e w' => e = .returned (.bool true) ∧ Below W.heap.size W w') := fun W hW => works_any W (Cm.tab_below hD hW) (Nu.tab_grw hN hW)
  have HLt := Lib.hid (light_any l0 v0 w h0 z0 n0)
  have HPr := Lib.hid (print_any l0 v0 w h0 z0 n0 hD hN)
  have HF := Lib.hid h0
  have HN0 := Lib.hid n0
  have HB0 := Lib.hid (Below.refl w.heap.size w)
  have HPa : Hid (checkE l0 = 0 → ∀ W, Below w.heap.size w W → Calls Tryd.prog 8 #[.string (mk (prV l0))] W fun e w' => (∃ (a : Option Addr) (c : Nat), e = .returned (.tuple #[.slice a l0.length c, .agg #[.int .i64 0, .int .i64 0]]) ∧ FesAt All w' (.slice a l0.length c) l0) ∧ Below W.heap.size W w') := fun hE W hW => by
    have hz := tab_size l0 (check_facts hE).2.1
    have hj := Pl.join_size (tabW l0)
    have hl := (check_facts hE).1
    have hpv : (prV l0).length ≤ 30000 := by unfold prV; rw [if_pos hE]; unfold prT; omega
    exact parse_same (mk (prV l0)) W (by rw [mk_size]; unfold maxLen; omega) (Cm.tab_below hD hW) l0 0 (Or.inl ⟨by rw [mk_list]; exact text_back hE, rfl⟩)
  have HEm : Hid (¬ checkE l0 = 0 → prV l0 = []) := fun h => by unfold prV; rw [if_neg h]
  obtain ⟨fa, fk, rfl, -, -⟩ := h0.form
  clear h0 z0 n0 hN hD
  go_enter Tryd.func3, Tryd.ntmps3
  go_wp2_with fail
  go_at_call 5
  refine HLt.out.mono ?_
  rintro e w1 ⟨⟨bl, rfl, hbl⟩, hw1⟩
  rw [hw1]
  clear hw1 w1 hbl HLt
  cases bl with
  | false =>
    clear HPr HPa HEm
    go_wp2_with (go_at_call 6; refine (HWk.out _ HB0.out).mono ?_; rintro e w9 ⟨rfl, hb9⟩; have HB9 := Lib.hid (below_trans HB0.out hb9); clear hb9)
    go_ret
    exact ⟨rfl, HB9.out⟩
  | true =>
    by_cases hE : checkE l0 = 0
    case neg =>
      have hne : (checkE l0 != 0) = true := by simpa using hE
      have HPr2 : Hid (Calls Tryd.prog 7 #[.slice fa l0.length fk] w fun e w' => e = .returned (.tuple #[.string ⟨#[]⟩, .int .i64 (checkE l0)]) ∧ Below w.heap.size w w') := by
        have := HPr.out
        rw [HEm.out hE] at this
        exact this
      clear hE HPr HPa HEm
      generalize checkE l0 = E at *
      go_wp2_with (first | (go_at_call 7; refine HPr2.out.mono ?_; rintro e w2 ⟨rfl, hb2⟩; have HB2 := Lib.hid hb2; clear hb2) | (go_at_call 6; refine (HWk.out _ HB2.out).mono ?_; rintro e w9 ⟨rfl, hb9⟩; have HB9 := Lib.hid (below_trans HB2.out hb9); clear hb9))
      go_ret
      exact ⟨rfl, HB9.out⟩
    have HP4 := Lib.hid (HPa.out hE)
    rw [hE] at HPr
    clear HPa HEm hE
    generalize mk (prV l0) = T at *
    go_wp2_with fail
    go_at_call 7
    refine HPr.out.mono ?_
    rintro e w2 ⟨rfl, hb2⟩
    have HB2 := Lib.hid hb2
    have HF2 := Lib.hid (HF.out.grw hb2)
    clear hb2 HPr HF HB0
    go_wp2_with fail
    go_at_call 8
    refine (HP4.out _ HB2.out).mono ?_
    rintro e w3 ⟨⟨a, c, rfl, hr⟩, hb3⟩
    have hb4 := below_alloc w3 (.cells #[.int .i64 0, .int .i64 0] 29)
    have HR4 := Lib.hid (hr.grw hb4)
    have HF4 := Lib.hid (HF2.out.grw (below_trans hb3 hb4))
    have HB4 := Lib.hid (below_trans HB2.out (below_trans hb3 hb4))
    have HG4 := Lib.hid (heap_alloc_new w3 (.cells #[.int .i64 0, .int .i64 0] 29))
    clear hr hb3 hb4 HF2 HB2 HP4
    go_upto_region 7 with fail
    generalize w3.alloc (.cells #[.int .i64 0, .int .i64 0] 29) = W4 at *
    generalize w3.heap.size = b3 at *
    obtain ⟨z0, z1, -, -⟩ := box_two HG4.out
    have HS4 := Lib.hid (same_eq l0 _ _ W4 HF4.out HR4.out HN0.out)
    clear HF4 HR4 HN0
    go_wp2_with (first | (go_at_call 9; refine HS4.out.mono ?_; rintro e w5 ⟨rfl, hb5⟩; have HB5 := Lib.hid (below_trans HB4.out hb5); clear hb5) | (go_at_call 6; refine (HWk.out _ HB5.out).mono ?_; rintro e w9 ⟨rfl, hb9⟩; have HB9 := Lib.hid (below_trans HB5.out hb9); clear hb9))
    go_ret
    exact ⟨rfl, HB9.out⟩

/-! ### the row's step -/
theorem laidOut : laidOutB Tryd.prog = true := by kernel_rfl
set_option maxRecDepth 100000 in
theorem lifted (os : Os) (started : os.Started) (H : Type) (enc : TypeId × Value → H) :
    ReturnsInHanded {} Tryd.checked os 3 .any (fun w args => (Rows.feesBackSpec.pre enc Tryd.prog Tryd.f3 [] false w args ∧ laidMetH Tryd.prog laidL w) ∧ sizedMet enc Tryd.prog Tryd.f3 (OpenSpec.ofChange Rows.feesBackSpec) false w args) (Rows.feesBackSpec.post enc Tryd.prog Tryd.f3 false true false false) := by
  refine lift own started (by kernel_rfl) Tryd.func3
    (ChangeSpec.witness_shaped (enc := enc) (C := Tryd.checked) (os := os) (X := fun w _ => laidMetH Tryd.prog laidL w) false (World.laidAll Tryd.prog os laidL) #[.slice none 0 0] 8 (World.laidAll_os _ _ _)
      (World.shaped_of_ZipB (by kernel_rfl) (by kernel_rfl)) (by kernel_rfl) (by kernel_rfl) (by kernel_rfl)
      (by rw [MakeChecks.laidMetH_plain _ _ _ (by kernel_rfl)]; exact laidMet_laidAll _ (by kernel_rfl) (by kernel_rfl))) ?_
  intro W base args ds gs before hval0 hW hwt hT
  have hval : ∀ (j : Nat) t v, Tryd.f3.params[j]? = some t → args[j]? = some v → Value.okWide Tryd.prog W .any base t v := hval0
  have hW' := hW
  obtain ⟨p, q, hA0, hV, rfl, hfz, hnd⟩ := hW
  have hA : DataW.TrodAll enc Tryd.prog W 0 (fun _ => true) true Tryd.f3.params.toList args.toList ds p := hA0
  rw [Tryd.params3] at hA hval hwt
  obtain ⟨v0, vs0, d0, ds0, p0, q0, hargs, rfl, rfl, h0, r0⟩ := trodAll_cons hA
  obtain ⟨rfl, rfl, rfl⟩ := trodAll_nil r0
  obtain rfl : args = #[v0] := by cases args; simp_all
  obtain ⟨rfl, rfl⟩ := trodVars_none hV
  have hwl : ∀ z, (z ∈ d0.weights Tryd.prog 22 → z ≤ reachBytes) := fun z => by
    have h := List.all_eq_true.1 hwt z
    simp only [decide_eq_true_eq] at h
    refine fun hz => h ?_
    all_goals
      simp only [List.cons_append, List.nil_append, List.toList_toArray, List.append_nil, DataW.weightsEach, List.mem_append]
      simp [hz]
  have k0 := h0
  have lt0 : ∀ x ∈ p0, x.block < W.heap.size := by obtain ⟨m, hm⟩ := k0; exact DataW.trod_lt m _ _ _ hm
  obtain ⟨l0, g0, n0, z0⟩ := open_fees (okWide_slice Tryd.underlying22 (hval 0 22 v0 rfl rfl)) h0 (fun z hz => hwl z hz)
  clear hA0 hval0
  refine (walk W v0 l0 g0 n0 z0 hT).mono fun e W' ⟨he, bel⟩ => ?_
  subst he
  exact ⟨_, rfl, _, _, _, [], _, [], hW', (trodAll_cons_mk (shut_bool Tryd.underlying4 _) trodAll_mk0), (trodAll_cons_mk (Below.trod laidOut (by kernel_rfl) (of_decide_eq_true (by kernel_rfl)) k0 bel lt0) trodAll_mk0), rfl, bel.frame _, fun h => by cases h⟩

theorem over : Rows.feesBackRow.holds Tryd.pinned (OpenSpec.ofChange Rows.feesBackSpec) :=
  OpenClaim.holds_of_wide 3 Tryd.f3 rfl rfl rfl rfl rfl rfl rfl ⟨rfl, rfl, rfl, rfl, rfl⟩ rfl rfl rfl rfl rfl (by kernel_rfl) Tryd.func3 (by kernel_rfl)
    (of_decide_eq_true (by kernel_rfl)) (by unfold Func.isWrapper; first | (rw [if_pos (by decide +kernel)]; kernel_rfl) | (rw [if_neg (by decide +kernel)]; exact ⟨rfl, rfl⟩))
    (fun os started H enc _ => lifted os started H enc)

/-- The row's statement. -/
theorem proved : Rows.FeesBackSaid := over
end Go.Proofs.YtmoldgmfhcmceaaDoor.feesBack
namespace Go.Proofs.YtmoldgmfhcmceaaDoor
theorem feesBack_holds : Rows.FeesBackCardSaid :=
  Claim7.holds_tied_plain_at .later [] [.data, .data, .data, .data] true (true, "dc6de08f986fe839d9b4d4c88e23b1a0f0b8862dcb03fb9235ab3580fe1b0240") false
    feesBack.proved (fun _ h => by cases h) (by kernel_rfl) (fun _ h => by cases h) feesBack_row_tie rfl ⟨rfl, rfl⟩ (by kernel_rfl) rfl
    (fun f fn hf hfn => by
      obtain rfl : f = 3 := Option.some.inj ((show Tryd.prog.funcNamed "leechbook/leechbooklaw12.FeesBack" = some 3 by kernel_rfl).symm.trans hf) |>.symm
      obtain rfl : fn = Tryd.f3 := (Option.some.inj (Tryd.func3.symm.trans hfn)).symm
      exact ⟨by kernel_rfl, fun j t ht => by
        rw [Tryd.params3] at ht
        have hm : t ∈ [22] := by simpa using Array.mem_of_getElem? ht
        have hall : ([22].all fun u => !Tryd.prog.wantsStandIn u) = true := by kernel_rfl
        exact (show Tryd.prog.wantsStandIn t = false by simpa using List.all_eq_true.1 hall t hm)⟩)
    (by kernel_rfl)
#print axioms feesBack_holds
end Go.Proofs.YtmoldgmfhcmceaaDoor
