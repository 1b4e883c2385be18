/-
  For every claim and every number: a claim of some of its services may be, if the claim may, and some are left: the law returns true. The listed table is tied to the program's text.
-/
import Derived.Test.YtpmlmoclocccoaaDoorRows
import Derived.WalkKit
import Derived.ProofKit
import Derived.OpenShut
import Derived.ShutString
import Derived.Below
import Derived.Carry
import Derived.LaidMore
import Derived.Stop.Joined
import Derived.SevenTiedAt
import Derived.Deep.DeepCutAuto
import Derived.Test.YtpmlmoclocccoaaDoorLParts
import Derived.Test.YtpmlmoclocccoaaDoorLRBatch
import Derived.Test.YtpmlmoclocccoaaDoorLOpen
import Derived.Test.YtpmlmoclocccoaaDoorTie
import Derived.Test.YtpmlmoclocccoaaDoorCards
namespace Go.Proofs.YtpmlmoclocccoaaDoor.claimParts
open Go.ChangeShapes Go.WideShapes Go.ChangeAt Go.RowKit
open Cm
open Go.ChangeMaps (open_string)
set_option linter.unusedVariables false
set_option linter.unusedSimpArgs false


theorem own : ownKnob Tryd.prog.godebug = none := by kernel_rfl

/-! ### the walk: the law returns true -/
set_option maxHeartbeats 2000000 in
theorem walk (w : World) (x0 : Cl) (m0 : Value) (h0 : LnsAt All w m0 x0.lines) (z0 : ClOk x0) (a1 : Int) (w1 : (Lit.int .i64 a1).wf = true) (hT : Da.Tab w) :
    Calls Tryd.prog 8 #[clv x0 m0, .int .i64 a1] w fun e w' => e = .returned (.bool true) ∧ Below w.heap.size w w' := by
  have HLt := Lib.hid (light_any (.slice (some ⟨(w.alloc (boxc x0 m0)).heap.size, 0, none⟩) 1 1) [x0] ((w.alloc (boxc x0 m0)).alloc (boxc x0 m0)) (cls_one _ x0 m0 (LnsAt.move h0 (Below.moves (below_alloc w _)))) (fun c hc => by simp at hc; rw [hc]; exact z0))
  rw [show (w.alloc (boxc x0 m0)).heap.size = w.heap.size + 1 from by simp] at HLt
  have HK2 := Lib.hid fun W (hb : Below w.heap.size w W) (hl : ClLight x0) => rcheck_any x0 m0 W (LnsAt.move h0 (Below.moves hb)) z0 (by have := hl.1; omega)
  have HKD := Lib.hid fun W k (hb : Below w.heap.size w W) (v : Value) (hv : LnsAt All W v (x0.lines.take k)) => check_any { x0 with lines := x0.lines.take k } v W hv (clok_take z0 k) (tab_below hT hb)
  have HCP := Lib.hid (check_parts x0)
  have HM := Lib.hid fun W (hb : Below w.heap.size w W) => LnsAt.move h0 (Below.moves hb)
  have HWk := Lib.hid fun W (hb : Below w.heap.size w W) => works_any W (tab_below hT hb)
  have HSX : Hid (∀ W, Below (w.alloc (boxc x0 m0)).heap.size (w.alloc (boxc x0 m0)) W → ClBox W w.heap.size x0 m0 ∧ Below w.heap.size w W) := fun W hb => ⟨(ClBox.new w x0 m0 _).grw hb, below_trans (below_alloc w _) hb⟩
  have HB0 := Lib.hid (below_alloc (w.alloc (boxc x0 m0)) (boxc x0 m0))
  have hlen := z0.2.2.2.2.2.2.1
  obtain ⟨am, cm, rfl, f1, f2⟩ := LnsAt.form h0
  clear h0 z0 hT
  go_enter Tryd.func8, Tryd.ntmps8
  go_wp2_with fail
  go_at_call 9
  refine (HLt.out).mono ?_
  rintro e w1 ⟨⟨b, rfl, hln⟩, hb⟩
  have HLN := Lib.hid hln
  have HB1 := Lib.hid (below_trans HB0.out hb)
  obtain ⟨p0, p1, p2, p3, p4, p5, p6⟩ := (HSX.out _ HB1.out).1
  clear hln hb HLt
  cases b
  · go_wp2_with (go_at_call 10; refine (HWk.out _ (HSX.out _ HB1.out).2).mono ?_; rintro e w3 ⟨rfl, hb⟩; have HB3 := Lib.hid (below_trans (HSX.out _ HB1.out).2 hb); clear hb)
    go_ret
    exact ⟨rfl, HB3.out⟩
  have hli := HLN.out rfl x0 (by simp)
  have HK3 := Lib.hid fun W hb => HK2.out W hb hli
  clear HLN HK2
  have hll := hli.1
  clear hli
  by_cases he : checkE x0 = 0
  case neg =>
    have hbe : (checkE x0 != 0) = true := by simpa using he
    clear he HCP HKD
    generalize checkE x0 = E at *
    go_wp2_with (first | (go_at_call 14; refine (HK3.out _ (HSX.out _ HB1.out).2).mono ?_; rintro e w2 ⟨rfl, hb⟩; have HB2 := Lib.hid (below_trans HB1.out hb); obtain ⟨q0, q1, q2, q3, q4, q5, q6⟩ := (HSX.out _ HB2.out).1; clear hb) | (go_at_call 10; refine (HWk.out _ (HSX.out _ HB2.out).2).mono ?_; rintro e w3 ⟨rfl, hb⟩; have HB3 := Lib.hid (below_trans (HSX.out _ HB2.out).2 hb); clear hb))
    go_ret
    exact ⟨rfl, HB3.out⟩
  rw [he] at HK3
  have HC2 := Lib.hid fun k (h1 : 1 ≤ k) (h2 : k ≤ x0.lines.length) => HCP.out k he h1 h2
  clear HCP he
  have ez : ((x0.lines.length : Int) == 0) = decide (x0.lines.length = 0) := by rw [Bool.eq_iff_iff]; simp
  obtain ⟨Z, hZ⟩ : ∃ Z, Z = decide (x0.lines.length = 0) := ⟨_, rfl⟩
  rw [← hZ] at ez
  by_cases hz : x0.lines.length = 0
  · rw [decide_eq_true hz] at hZ
    clear hz HKD HC2
    go_wp2_with (first | (go_at_call 14; refine (HK3.out _ (HSX.out _ HB1.out).2).mono ?_; rintro e w2 ⟨rfl, hb⟩; have HB2 := Lib.hid (below_trans HB1.out hb); obtain ⟨q0, q1, q2, q3, q4, q5, q6⟩ := (HSX.out _ HB2.out).1; clear hb) | (go_at_call 10; refine (HWk.out _ (HSX.out _ HB2.out).2).mono ?_; rintro e w3 ⟨rfl, hb⟩; have HB3 := Lib.hid (below_trans (HSX.out _ HB2.out).2 hb); clear hb))
    go_ret
    exact ⟨rfl, HB3.out⟩
  rw [decide_eq_false hz] at hZ
  have hpos : 0 < x0.lines.length := by omega
  clear hz
  obtain ⟨K, hK1, hK2⟩ : ∃ K : Nat, (IntKind.u64.wrap a1).tmod (x0.lines.length : Int) = (K : Int) ∧ K < x0.lines.length := wrap_mod a1 x0.lines.length hpos
  obtain ⟨bb, oo, mm, rfl, -, -, -⟩ := LnsAt.get (HM.out w (Below.refl _ _)) 0 hpos
  have hE := HC2.out (1 + K) (by omega) (by omega)
  have HKE := Lib.hid fun W hb v hv => HKD.out W (1 + K) hb v hv
  rw [hE] at HKE
  have HTK := Lib.hid fun W hb => LnsAt.take (HM.out W hb) (1 + K) (by omega)
  have hKc : 1 + K ≤ cm := by omega
  clear HKD HC2 hE
  go_wp2_with (first | (go_at_call 14; refine (HK3.out _ (HSX.out _ HB1.out).2).mono ?_; rintro e w2 ⟨rfl, hb⟩; have HB2 := Lib.hid (below_trans HB1.out hb); obtain ⟨q0, q1, q2, q3, q4, q5, q6⟩ := (HSX.out _ HB2.out).1; obtain ⟨f0, f1, f2, f3, f4, f5, f6⟩ := (HSX.out _ (below_trans HB2.out (below_alloc w2 (boxc x0 (.slice (some ⟨bb, oo, none⟩) x0.lines.length cm))))).1; unfold boxc at f0 f1 f2 f3 f4 f5 f6; clear hb) | fail)
  have HBW : Hid (∀ o, Below w.heap.size w (w2.alloc o)) := fun o => below_trans (HSX.out _ HB2.out).2 (below_alloc w2 o)
  go_at_call 13
  refine (HKE.out _ (HBW.out _) _ (HTK.out _ (HBW.out _))).mono ?_
  rintro e w3 ⟨rfl, hb⟩
  have HB3 := Lib.hid (below_trans (HBW.out _) hb)
  clear hb
  go_wp2_with (go_at_call 10; refine (HWk.out _ HB3.out).mono ?_; rintro e w4 ⟨rfl, hb⟩; have HB4 := Lib.hid (below_trans HB3.out hb); clear hb)
  go_ret
  exact ⟨rfl, HB4.out⟩

/-! ### the row's step -/
theorem laidOut : laidOutB Tryd.prog = true := by kernel_rfl
set_option maxRecDepth 100000 in
theorem lifted (os : Os) (started : os.Started) (H : Type) (enc : TypeId × Value → H) :
    ReturnsInHanded {} Tryd.checked os 8 .any (fun w args => (Rows.claimPartsSpec.pre enc Tryd.prog Tryd.f8 [] false w args ∧ laidMetH Tryd.prog laidL w) ∧ sizedMet enc Tryd.prog Tryd.f8 (OpenSpec.ofChange Rows.claimPartsSpec) false w args) (Rows.claimPartsSpec.post enc Tryd.prog Tryd.f8 false true false false) := by
  refine lift own started (by kernel_rfl) Tryd.func8
    (ChangeSpec.witness_shaped (enc := enc) (C := Tryd.checked) (os := os) (X := fun w _ => laidMetH Tryd.prog laidL w) false (World.laidAll Tryd.prog os laidL) #[.agg #[.string ByteArray.empty, .string ByteArray.empty, .string ByteArray.empty, .int .i64 0, .int .i64 0, .string ByteArray.empty, .slice none 0 0], .int .i64 0] 8 (World.laidAll_os _ _ _)
      (World.shaped_of_ZipB (by kernel_rfl) (by kernel_rfl)) (by kernel_rfl) (by kernel_rfl) (by kernel_rfl)
      (by rw [MakeChecks.laidMetH_plain _ _ _ (by kernel_rfl)]; exact laidMet_laidAll _ (by kernel_rfl) (by kernel_rfl))) ?_
  intro W base args ds gs before hval0 hW hwt hT
  have hval : ∀ (j : Nat) t v, Tryd.f8.params[j]? = some t → args[j]? = some v → Value.okWide Tryd.prog W .any base t v := hval0
  have hW' := hW
  obtain ⟨p, q, hA0, hV, rfl, hfz, hnd⟩ := hW
  have hA : DataW.TrodAll enc Tryd.prog W 0 (fun _ => true) true Tryd.f8.params.toList args.toList ds p := hA0
  rw [Tryd.params8] at hA hval hwt
  obtain ⟨v0, vs0, d0, ds0, p0, q0, hargs, rfl, rfl, h0, r0⟩ := trodAll_cons hA
  obtain ⟨v1, vs1, d1, ds1, p1, q1, rfl, rfl, rfl, h1, r1⟩ := trodAll_cons r0
  obtain ⟨rfl, rfl, rfl⟩ := trodAll_nil r1
  obtain rfl : args = #[v0, v1] := by cases args; simp_all
  obtain ⟨rfl, rfl⟩ := trodVars_none hV
  have hwl : ∀ z, (z ∈ d0.weights Tryd.prog 24 → z ≤ reachBytes) ∧ (z ∈ d1.weights Tryd.prog 3 → z ≤ reachBytes) := fun z => by
    have h := List.all_eq_true.1 hwt z
    simp only [decide_eq_true_eq] at h
    refine ⟨fun hz => h ?_, fun hz => h ?_⟩
    all_goals
      simp only [List.cons_append, List.nil_append, List.toList_toArray, List.append_nil, DataW.weightsEach, List.mem_append]
      simp [hz]
  have k0 := h0
  have lt0 : ∀ x ∈ p0, x.block < W.heap.size := by obtain ⟨m, hm⟩ := k0; exact DataW.trod_lt m _ _ _ hm
  obtain ⟨x0, m0, rfl, g0, z0⟩ := open_claim (hval 0 24 v0 rfl rfl) h0 (fun z hz => (hwl z).1 hz)
  have k1 := h1
  have lt1 : ∀ x ∈ p1, x.block < W.heap.size := by obtain ⟨m, hm⟩ := k1; exact DataW.trod_lt m _ _ _ hm
  obtain ⟨a1, rfl, _, _, w1⟩ := open_int Tryd.underlying3 (hval 1 3 v1 rfl rfl) h1
  clear hA0 hval0
  refine (walk W x0 m0 g0 z0 a1 w1 hT).mono fun e W' ⟨he, bel⟩ => ?_
  subst he
  exact ⟨_, rfl, _, _, _, [], _, [], hW', (trodAll_cons_mk (shut_bool Tryd.underlying4 _) trodAll_mk0), (trodAll_cons_mk (Below.trod laidOut (by kernel_rfl) (of_decide_eq_true (by kernel_rfl)) k0 bel lt0) (trodAll_cons_mk (Below.trod laidOut (by kernel_rfl) (of_decide_eq_true (by kernel_rfl)) k1 bel lt1) trodAll_mk0)), rfl, bel.frame _, fun h => by cases h⟩

theorem over : Rows.claimPartsRow.holds Tryd.pinned (OpenSpec.ofChange Rows.claimPartsSpec) :=
  OpenClaim.holds_of_wide 8 Tryd.f8 rfl rfl rfl rfl rfl rfl rfl ⟨rfl, rfl, rfl, rfl, rfl⟩ rfl rfl rfl rfl rfl (by kernel_rfl) Tryd.func8 (by kernel_rfl)
    (of_decide_eq_true (by kernel_rfl)) (by unfold Func.isWrapper; first | (rw [if_pos (by decide +kernel)]; kernel_rfl) | (rw [if_neg (by decide +kernel)]; exact ⟨rfl, rfl⟩))
    (fun os started H enc _ => lifted os started H enc)

/-- The row's statement. -/
theorem proved : Rows.ClaimPartsSaid := over
end Go.Proofs.YtpmlmoclocccoaaDoor.claimParts
namespace Go.Proofs.YtpmlmoclocccoaaDoor
theorem claimParts_holds : Rows.ClaimPartsCardSaid :=
  Claim7.holds_tied_plain_at .later [] [.data] true (true, "e0c6d56abecee78b69bbdfe67875128316fb25898fd5cc9334db5ddfe1891555") false
    claimParts.proved (fun _ h => by cases h) (by kernel_rfl) (fun _ h => by cases h) claimParts_row_tie rfl ⟨rfl, rfl⟩ (by kernel_rfl) rfl
    (fun f fn hf hfn => by
      obtain rfl : f = 8 := Option.some.inj ((show Tryd.prog.funcNamed "leechbook/leechbooklaw07.ClaimParts" = some 8 by kernel_rfl).symm.trans hf) |>.symm
      obtain rfl : fn = Tryd.f8 := (Option.some.inj (Tryd.func8.symm.trans hfn)).symm
      exact ⟨by kernel_rfl, fun j t ht => by
        rw [Tryd.params8] at ht
        have hm : t ∈ [24, 3] := by simpa using Array.mem_of_getElem? ht
        have hall : ([24, 3].all fun u => !Tryd.prog.wantsStandIn u) = true := by kernel_rfl
        exact (show Tryd.prog.wantsStandIn t = false by simpa using List.all_eq_true.1 hall t hm)⟩)
    (by kernel_rfl)
#print axioms claimParts_holds
end Go.Proofs.YtpmlmoclocccoaaDoor
