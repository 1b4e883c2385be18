/-
  The statement BookStands (18.4): which claims of any book stand is what the chapter says: for all books; without a condition.
-/
import Derived.WalkKit
import Derived.ProofKit
import Derived.OpenShut
import Derived.ShutString
import Derived.Below
import Derived.Carry
import Derived.LaidMore
import Derived.Stop.Joined
import Derived.SevenTiedAt
import Derived.Deep.DeepCutAuto
import Derived.Test.YtjgceppbhmmbjaaDoorRows
import Derived.Test.YtjgceppbhmmbjaaDoorTie
import Derived.Test.YtjgceppbhmmbjaaDoorCards
import Derived.Test.YtjgceppbhmmbjaaDoorMb1
import Derived.Test.YtjgceppbhmmbjaaDoorMb2
import Derived.Test.YtjgceppbhmmbjaaDoorMb3
import Derived.Test.YtjgceppbhmmbjaaDoorMb4
import Derived.Test.YtjgceppbhmmbjaaDoorMb5
import Derived.Test.YtjgceppbhmmbjaaDoorMb6
import Derived.Test.YtjgceppbhmmbjaaDoorMb7
import Derived.Test.YtjgceppbhmmbjaaDoorMb8
import Derived.Test.YtjgceppbhmmbjaaDoorMb9
import Derived.Test.YtjgceppbhmmbjaaDoorMb10
import Derived.Test.YtjgceppbhmmbjaaDoorMb11
import Derived.Test.YtjgceppbhmmbjaaDoorMb12
import Derived.Test.YtjgceppbhmmbjaaDoorMb13
import Derived.Test.YtjgceppbhmmbjaaDoorMb14
import Derived.Test.YtjgceppbhmmbjaaDoorMb15
import Derived.Test.YtjgceppbhmmbjaaDoorMb16
import Derived.Test.YtjgceppbhmmbjaaDoorMb17
import Derived.Test.YtjgceppbhmmbjaaDoorMb18
import Derived.Test.YtjgceppbhmmbjaaDoorMb19
import Derived.Test.YtjgceppbhmmbjaaDoorMb20
import Derived.Test.YtjgceppbhmmbjaaDoorMb21
import Derived.Test.YtjgceppbhmmbjaaDoorMb22
import Derived.Test.YtjgceppbhmmbjaaDoorMb23
import Derived.Test.YtjgceppbhmmbjaaDoorMb24
import Derived.Test.YtjgceppbhmmbjaaDoorMb25
import Derived.Test.YtjgceppbhmmbjaaDoorMb26
import Derived.Test.YtjgceppbhmmbjaaDoorMb27
import Derived.Test.YtjgceppbhmmbjaaDoorMb28
import Derived.Test.YtjgceppbhmmbjaaDoorMb29
namespace Go.Proofs.YtjgceppbhmmbjaaDoor.bookStands
open Go.ChangeShapes Go.WideShapes Go.ChangeAt Go.RowKit
open Cm (Ln Cl cl0 LnsAt clv lnv LnOk ClOk laidL lift open_claim)
open Bk
open Sh (Ot)
open Go.ChangeMaps (open_string)
set_option linter.unusedVariables false
set_option linter.unusedSimpArgs false
set_option maxRecDepth 100000

theorem own : ownKnob Tryd.prog.godebug = none := by kernel_rfl

/-! ### the walk: the law returns true -/
set_option maxHeartbeats 4000000 in
theorem walk (w : World) (ve : Value) (l : List En) (hE : EnsAt All w ve l) (he : ∀ x ∈ l, EnOk x) (hT : Da.Tab w) :
    Calls Tryd.prog 4 #[ve] w fun e w' => e = .returned (.bool true) ∧ Below w.heap.size w w' := by
  have HW := Lib.hid fun W (hW : Below w.heap.size w W) => works_any W (Cm.tab_below hT hW)
  obtain ⟨ea, ec, rfl, hl1, hl2⟩ := hE.form
  have HLi : Hid (∀ W, Below w.heap.size w W → Calls Tryd.prog 9 #[.slice ea l.length ec, .agg #[.string ⟨#[]⟩, .string ⟨#[]⟩, .string ⟨#[]⟩, .int .i64 0, .int .i64 0, .string ⟨#[]⟩, .slice none 0 0]] W fun e w' => LtV l cl0 e ∧ Below W.heap.size W w') := fun W hW => light_any l cl0 (.slice ea l.length ec) (.slice none 0 0) W (hE.grw hW) (lns_nil W) he cl0_ok
  have HSt : Hid (LtP l cl0 → ∀ W, Below w.heap.size w W → Calls Tryd.prog 18 #[.slice ea l.length ec] W fun e w' => (∃ a k, e = .returned (.slice a (stand l).length k) ∧ EnsAt All w' (.slice a (stand l).length k) (stand l)) ∧ Below W.heap.size W w') := fun h W hW => stand_at l (.slice ea l.length ec) W (hE.grw hW) (by have := h.1.1; omega) (fun x hx => enb_of (h.1.2 x hx))
  have HRs : Hid (LtP l cl0 → ∀ W, Below w.heap.size w W → Calls Tryd.prog 19 #[.slice ea l.length ec] W fun e w' => (∃ a k, e = .returned (.slice a (stand l).length k) ∧ EnsAt All w' (.slice a (stand l).length k) (stand l)) ∧ Below W.heap.size W w') := fun h W hW => rstand_at l (.slice ea l.length ec) W (hE.grw hW) (by have := h.1.1; omega)
  have HSa : Hid (LtP l cl0 → ∀ W v u, EnsAt All W v (stand l) → EnsAt All W u (stand l) → Calls Tryd.prog 13 #[v, u] W fun e w' => e = .returned (.bool true) ∧ Below W.heap.size W w') := fun h W v u g1 g2 => same_eq (stand l) v u W g1 g2 (fun x hx => (stand_b (fun x hx => enb_of (h.1.2 x hx)) x hx).2) (by have := h.1.1; have := stand_l l; omega)
  have HB0 := Lib.hid (Below.refl w.heap.size w)
  clear hE he hT
  generalize stand l = SL at *
  go_enter Tryd.func4, Tryd.ntmps4
  go_wp2_with fail
  try (go_at_call 9)
  refine (HLi.out w HB0.out).mono ?_
  rintro e w1 ⟨⟨b1, rfl, hl⟩, hb1⟩
  have HB1 := Lib.hid (below_trans HB0.out hb1)

  have HLt := Lib.hid hl
  clear hb1 hl HLi HB0
  cases b1 with
  | false =>
    go_wp2_with fail
    try (go_at_call 10)
    refine (HW.out w1 HB1.out).mono ?_
    rintro e w99 ⟨rfl, hb99⟩
    have HB99 := Lib.hid (below_trans HB1.out hb99)
    clear hb99
    go_wp2
    go_ret
    exact ⟨rfl, HB99.out⟩
  | true =>
    have HL := Lib.hid (HLt.out rfl)
    clear HLt
    go_wp2_with fail
    try (go_at_call 18)
    refine (HSt.out HL.out w1 HB1.out).mono ?_
    rintro e w2 ⟨⟨a2, k2, rfl, hs2⟩, hb2⟩
    have HB2 := Lib.hid (below_trans HB1.out hb2)
    have HS2 := Lib.hid hs2
    clear hb2 hs2
    go_wp2_with fail
    try (go_at_call 19)
    refine (HRs.out HL.out w2 HB2.out).mono ?_
    rintro e w3 ⟨⟨a3, k3, rfl, hs3⟩, hb3⟩
    have HB3 := Lib.hid (below_trans HB2.out hb3)
    have HS3 := Lib.hid hs3
    have HQ3 := Lib.hid (HS2.out.grw hb3)
    clear hb3 hs3 HS2
    go_wp2_with fail
    try (go_at_call 13)
    refine (HSa.out HL.out w3 _ _ HQ3.out HS3.out).mono ?_
    rintro e w4 ⟨rfl, hb4⟩
    have HB4 := Lib.hid (below_trans HB3.out hb4)
    clear hb4
    go_wp2_with fail
    try (go_at_call 10)
    refine (HW.out w4 HB4.out).mono ?_
    rintro e w99 ⟨rfl, hb99⟩
    have HB99 := Lib.hid (below_trans HB4.out hb99)
    clear hb99
    go_wp2
    go_ret
    exact ⟨rfl, HB99.out⟩

/-! ### the row's step -/
theorem laidOut : laidOutB Tryd.prog = true := by kernel_rfl
set_option maxRecDepth 100000 in
theorem lifted (os : Os) (started : os.Started) (H : Type) (enc : TypeId × Value → H) :
    ReturnsInHanded {} Tryd.checked os 4 .any (fun w args => (Rows.bookStandsSpec.pre enc Tryd.prog Tryd.f4 [] false w args ∧ laidMetH Tryd.prog laidL w) ∧ sizedMet enc Tryd.prog Tryd.f4 (OpenSpec.ofChange Rows.bookStandsSpec) false w args) (Rows.bookStandsSpec.post enc Tryd.prog Tryd.f4 false true false false) := by
  refine lift own started (by kernel_rfl) Tryd.func4
    (ChangeSpec.witness_shaped (enc := enc) (C := Tryd.checked) (os := os) (X := fun w _ => laidMetH Tryd.prog laidL w) false (World.laidAll Tryd.prog os laidL) #[.slice none 0 0] 8 (World.laidAll_os _ _ _)
      (World.shaped_of_ZipB (by kernel_rfl) (by kernel_rfl)) (by kernel_rfl) (by kernel_rfl) (by kernel_rfl)
      (by rw [MakeChecks.laidMetH_plain _ _ _ (by kernel_rfl)]; exact laidMet_laidAll _ (by kernel_rfl) (by kernel_rfl))) ?_
  intro W base args ds gs before hval0 hW hwt hT
  have hval : ∀ (j : Nat) t v, Tryd.f4.params[j]? = some t → args[j]? = some v → Value.okWide Tryd.prog W .any base t v := hval0
  have hW' := hW
  obtain ⟨p, q, hA0, hV, rfl, hfz, hnd⟩ := hW
  have hA : DataW.TrodAll enc Tryd.prog W 0 (fun _ => true) true Tryd.f4.params.toList args.toList ds p := hA0
  rw [Tryd.params4] at hA hval hwt
  obtain ⟨v0, vs0, d0, ds0, p0, q0, hargs, rfl, rfl, h0, r0⟩ := trodAll_cons hA
  obtain ⟨rfl, rfl, rfl⟩ := trodAll_nil r0
  obtain rfl : args = #[v0] := by cases args; simp_all
  obtain ⟨rfl, rfl⟩ := trodVars_none hV
  have hwl : ∀ z, (z ∈ d0.weights Tryd.prog 22 → z ≤ reachBytes) := fun z => by
    have h := List.all_eq_true.1 hwt z
    simp only [decide_eq_true_eq] at h
    refine fun hz => h ?_
    all_goals
      simp only [List.cons_append, List.nil_append, List.toList_toArray, List.append_nil, DataW.weightsEach, List.mem_append]
      simp [hz]
  have k0 := h0
  have lt0 : ∀ x ∈ p0, x.block < W.heap.size := by obtain ⟨m, hm⟩ := k0; exact DataW.trod_lt m _ _ _ hm
  obtain ⟨l0, g0, z0⟩ := Bo.open_ens (okWide_slice Tryd.underlying22 (hval 0 22 v0 rfl rfl)) h0 (fun z hz => hwl z hz)
  clear hA0 hval0
  refine (walk W v0 l0 g0 z0 hT).mono fun e W' ⟨he, bel⟩ => ?_
  subst he
  exact ⟨_, rfl, _, _, _, [], _, [], hW', (trodAll_cons_mk (shut_bool Tryd.underlying4 _) trodAll_mk0), (trodAll_cons_mk (Below.trod laidOut (by kernel_rfl) (of_decide_eq_true (by kernel_rfl)) k0 bel lt0) trodAll_mk0), rfl, bel.frame _, fun h => by cases h⟩

theorem over : Rows.bookStandsRow.holds Tryd.pinned (OpenSpec.ofChange Rows.bookStandsSpec) :=
  OpenClaim.holds_of_wide 4 Tryd.f4 rfl rfl rfl rfl rfl rfl rfl ⟨rfl, rfl, rfl, rfl, rfl⟩ rfl rfl rfl rfl rfl (by kernel_rfl) Tryd.func4 (by kernel_rfl)
    (of_decide_eq_true (by kernel_rfl)) (by unfold Func.isWrapper; first | (rw [if_pos (by decide +kernel)]; kernel_rfl) | (rw [if_neg (by decide +kernel)]; exact ⟨rfl, rfl⟩))
    (fun os started H enc _ => lifted os started H enc)

/-- The row's statement. -/
theorem proved : Rows.BookStandsSaid := over
end Go.Proofs.YtjgceppbhmmbjaaDoor.bookStands
namespace Go.Proofs.YtjgceppbhmmbjaaDoor
theorem bookStands_holds : Rows.BookStandsCardSaid :=
  Claim7.holds_tied_plain_at .later [] [.data] true (true, "f2479070b03f171d82c90618c5dc1cf43e6570ed6b4a30a463a32bd4503c9e70") false
    bookStands.proved (fun _ h => by cases h) (by kernel_rfl) (fun _ h => by cases h) bookStands_row_tie rfl ⟨rfl, rfl⟩ (by kernel_rfl) rfl
    (fun f fn hf hfn => by
      obtain rfl : f = 4 := Option.some.inj ((show Tryd.prog.funcNamed "leechbook/leechbooklaw18.BookStands" = some 4 by kernel_rfl).symm.trans hf) |>.symm
      obtain rfl : fn = Tryd.f4 := (Option.some.inj (Tryd.func4.symm.trans hfn)).symm
      exact ⟨by kernel_rfl, fun j t ht => by
        rw [Tryd.params4] at ht
        have hm : t ∈ [22] := by simpa using Array.mem_of_getElem? ht
        have hall : ([22].all fun u => !Tryd.prog.wantsStandIn u) = true := by kernel_rfl
        exact (show Tryd.prog.wantsStandIn t = false by simpa using List.all_eq_true.1 hall t hm)⟩)
    (by kernel_rfl)
#print axioms bookStands_holds
end Go.Proofs.YtjgceppbhmmbjaaDoor
