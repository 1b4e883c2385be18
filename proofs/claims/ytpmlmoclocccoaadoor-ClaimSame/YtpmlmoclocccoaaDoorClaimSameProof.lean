/-
  For every two claims: whether they are the same is what the reference says, and a copy is the same: the law returns true. The listed table is tied to the program's text.
-/
import Derived.Test.YtpmlmoclocccoaaDoorRows
import Derived.WalkKit
import Derived.ProofKit
import Derived.OpenShut
import Derived.ShutString
import Derived.Below
import Derived.Carry
import Derived.LaidMore
import Derived.Stop.Joined
import Derived.SevenTiedAt
import Derived.Deep.DeepCutAuto
import Derived.Test.YtpmlmoclocccoaaDoorLOne
import Derived.Test.YtpmlmoclocccoaaDoorLRSame
import Derived.Test.YtpmlmoclocccoaaDoorLOpen
import Derived.Test.YtpmlmoclocccoaaDoorTie
import Derived.Test.YtpmlmoclocccoaaDoorCards
namespace Go.Proofs.YtpmlmoclocccoaaDoor.claimSame
open Go.ChangeShapes Go.WideShapes Go.ChangeAt Go.RowKit
open Cm
open Go.ChangeMaps (open_string)
open Classical
set_option linter.unusedVariables false
set_option linter.unusedSimpArgs false


theorem own : ownKnob Tryd.prog.godebug = none := by kernel_rfl

/-! ### the walk: the law returns true -/
set_option maxHeartbeats 2000000 in
theorem walk (w : World) (x0 : Cl) (m0 : Value) (h0 : LnsAt All w m0 x0.lines) (z0 : ClOk x0) (x1 : Cl) (m1 : Value) (h1 : LnsAt All w m1 x1.lines) (z1 : ClOk x1) (hT : Da.Tab w) :
    Calls Tryd.prog 6 #[clv x0 m0, clv x1 m1] w fun e w' => e = .returned (.bool true) ∧ Below w.heap.size w w' := by
  have hb2 := below_trans (below_alloc w (boxc x0 m0)) (below_alloc (w.alloc (boxc x0 m0)) (boxc x1 m1))
  have e2 : ((w.alloc (boxc x0 m0)).alloc (boxc x1 m1)).heap.size = w.heap.size + 2 := by simp
  have HLt := Lib.hid (light_any (.slice (some ⟨((w.alloc (boxc x0 m0)).alloc (boxc x1 m1)).heap.size, 0, none⟩) 2 2) [x0, x1] (((w.alloc (boxc x0 m0)).alloc (boxc x1 m1)).alloc (boxcc x0 x1 m0 m1)) (cls_two _ x0 x1 m0 m1 (LnsAt.move h0 (Below.moves hb2)) (LnsAt.move h1 (Below.moves hb2))) (fun c hc => by
    simp at hc
    rcases hc with hc | hc
    · rw [hc]; exact z0
    · rw [hc]; exact z1))
  rw [e2] at HLt
  have HK1 := Lib.hid fun W (hb : Below w.heap.size w W) => same_any x0 x1 m0 m1 W (LnsAt.move h0 (Below.moves hb)) (LnsAt.move h1 (Below.moves hb))
  have HK2 := Lib.hid fun W (hb : Below w.heap.size w W) => rsame_any x0 x1 m0 m1 W (LnsAt.move h0 (Below.moves hb)) (LnsAt.move h1 (Below.moves hb))
  have HCp := Lib.hid fun W (hb : Below w.heap.size w W) (hl : ClLight x0) => copy_any x0 m0 W (LnsAt.move h0 (Below.moves hb)) (by have := hl.1; omega) (fun x hx => by have := (hl.2 x hx).1; omega)
  have HK3 := Lib.hid fun W u (hb : Below w.heap.size w W) (hu : LnsAt All W u x0.lines) => same_any x0 x0 m0 u W (LnsAt.move h0 (Below.moves hb)) hu
  rw [show decide (x0 = x0) = true from by simp] at HK3
  have HWk := Lib.hid fun W (hb : Below w.heap.size w W) => works_any W (tab_below hT hb)
  have HSX : Hid (∀ W, Below ((w.alloc (boxc x0 m0)).alloc (boxc x1 m1)).heap.size ((w.alloc (boxc x0 m0)).alloc (boxc x1 m1)) W → (ClBox W w.heap.size x0 m0 ∧ ClBox W (w.heap.size + 1) x1 m1) ∧ Below w.heap.size w W) := fun W hb => by
    refine ⟨⟨(ClBox.new w x0 m0 _).grw (below_trans (below_alloc _ _) hb), ?_⟩, below_trans hb2 hb⟩
    have := (ClBox.new (w.alloc (boxc x0 m0)) x1 m1 24).grw hb
    rwa [show (w.alloc (boxc x0 m0)).heap.size = w.heap.size + 1 from by simp] at this
  have HB0 := Lib.hid (below_alloc ((w.alloc (boxc x0 m0)).alloc (boxc x1 m1)) (boxcc x0 x1 m0 m1))
  have HNL : Hid (∀ B W u, ClLight x0 → NewLns B W u x0.lines → LnsAt All W u x0.lines) := fun B W u hl h => LnsAt.move (h.at (by have := hl.1; unfold maxLen; omega) (fun x hx => by have := (hl.2 x hx).1; unfold maxLen; omega)) (moves_weak W fun _ _ _ => trivial)
  generalize decide (x0 = x1) = E at *
  obtain ⟨am, cm, rfl, -, -⟩ := LnsAt.form h0
  obtain ⟨an, cn, rfl, -, -⟩ := LnsAt.form h1
  clear h0 z0 h1 z1 hT hb2 e2
  go_enter Tryd.func6, Tryd.ntmps6
  go_upto_if 9 with (go_at_call 9; refine (HLt.out).mono ?_; rintro e w1 ⟨⟨b, rfl, hln⟩, hb⟩; have HLN := Lib.hid hln; have HB1 := Lib.hid (below_trans HB0.out hb); obtain ⟨⟨p0, p1, p2, p3, p4, p5, p6⟩, o0, o1, o2, o3, o4, o5, o6⟩ := (HSX.out _ HB1.out).1; clear hln hb)
  cases b
  · go_wp2_with (go_at_call 10; refine (HWk.out _ (HSX.out _ HB1.out).2).mono ?_; rintro e w3 ⟨rfl, hb⟩; have HB3 := Lib.hid (below_trans (HSX.out _ HB1.out).2 hb); clear hb)
    go_ret
    exact ⟨rfl, HB3.out⟩
  have hli := HLN.out rfl x0 (by simp)
  have HC3 := Lib.hid fun W hb => HCp.out W hb hli
  have HN3 := Lib.hid fun B W u h => HNL.out B W u hli h
  have hEE : (E == E) = true := by cases E <;> rfl
  clear HLN HLt hli HCp HNL
  have HBd : Hid (∀ W, Below ((w.alloc (boxc x0 (.slice am x0.lines.length cm))).alloc (boxc x1 (.slice an x1.lines.length cn))).heap.size ((w.alloc (boxc x0 (.slice am x0.lines.length cm))).alloc (boxc x1 (.slice an x1.lines.length cn))) W → Below ((w.alloc (boxc x0 (.slice am x0.lines.length cm))).alloc (boxc x1 (.slice an x1.lines.length cn))).heap.size ((w.alloc (boxc x0 (.slice am x0.lines.length cm))).alloc (boxc x1 (.slice an x1.lines.length cn))) W.drew) := fun W h => Below.drew h
  go_wp2_with fail
  go_region_held3 (fun W => W.cell? ⟨w.heap.size, 0, none⟩ = some (.string (mk x0.id)) ∧ W.cell? ⟨w.heap.size, 1, none⟩ = some (.string (mk x0.mem)) ∧ W.cell? ⟨w.heap.size, 2, none⟩ = some (.string (mk x0.fam)) ∧ W.cell? ⟨w.heap.size, 3, none⟩ = some (.int .i64 x0.net) ∧ W.cell? ⟨w.heap.size, 4, none⟩ = some (.int .i64 x0.does) ∧ W.cell? ⟨w.heap.size, 5, none⟩ = some (.string (mk x0.ref)) ∧ W.cell? ⟨w.heap.size, 6, none⟩ = some (.slice am x0.lines.length cm) ∧ W.cell? ⟨w.heap.size + 1, 0, none⟩ = some (.string (mk x1.id)) ∧ W.cell? ⟨w.heap.size + 1, 1, none⟩ = some (.string (mk x1.mem)) ∧ W.cell? ⟨w.heap.size + 1, 2, none⟩ = some (.string (mk x1.fam)) ∧ W.cell? ⟨w.heap.size + 1, 3, none⟩ = some (.int .i64 x1.net) ∧ W.cell? ⟨w.heap.size + 1, 4, none⟩ = some (.int .i64 x1.does) ∧ W.cell? ⟨w.heap.size + 1, 5, none⟩ = some (.string (mk x1.ref)) ∧ W.cell? ⟨w.heap.size + 1, 6, none⟩ = some (.slice an x1.lines.length cn)) (go_keep) (first | (go_at_call 22; refine (HK2.out _ (HSX.out _ HB2.out).2).mono ?_; rintro e w3 ⟨rfl, hb⟩; have HB3 := Lib.hid (below_trans HB2.out hb); obtain ⟨⟨r0, r1, r2, r3, r4, r5, r6⟩, r10, r11, r12, r13, r14, r15, r16⟩ := (HSX.out _ HB3.out).1; clear hb) | (go_at_call 23; refine (HC3.out _ (HSX.out _ HB3.out).2).mono ?_; rintro e w4 ⟨⟨u, rfl, hu⟩, hb⟩; have HB4 := Lib.hid (below_trans HB3.out hb); obtain ⟨⟨s0, s1, s2, s3, s4, s5, s6⟩, s10, s11, s12, s13, s14, s15, s16⟩ := (HSX.out _ HB4.out).1; have HU := Lib.hid (HN3.out _ _ _ hu); obtain ⟨ua, uc, rfl⟩ := NewLns.form hu; clear hb hu) | (go_at_call 21; refine (HK3.out _ _ (HSX.out _ HB4.out).2 HU.out).mono ?_; rintro e w5 ⟨rfl, hb⟩; have HB5 := Lib.hid (below_trans HB4.out hb); obtain ⟨⟨t0, t1, t2, t3, t4, t5, t6⟩, t10, t11, t12, t13, t14, t15, t16⟩ := (HSX.out _ HB5.out).1; clear hb) | (go_at_call 21; refine (HK1.out _ (HSX.out _ (HBd.out _ HB1.out)).2).mono ?_; rintro e w2 ⟨rfl, hb⟩; have HB2 := Lib.hid (below_trans (HBd.out _ HB1.out) hb); obtain ⟨⟨q0, q1, q2, q3, q4, q5, q6⟩, q10, q11, q12, q13, q14, q15, q16⟩ := (HSX.out _ HB2.out).1; clear hb) | (go_at_call 10; refine (HWk.out _ (HSX.out _ HB5.out).2).mono ?_; rintro e w6 ⟨rfl, hb⟩; have HB6 := Lib.hid (below_trans HB5.out hb); obtain ⟨⟨u0, u1, u2, u3, u4, u5, u6⟩, u10, u11, u12, u13, u14, u15, u16⟩ := (HSX.out _ HB6.out).1; clear hb))
  all_goals
    go_wp2
    go_ret
    exact ⟨rfl, (HSX.out _ HB6.out).2⟩

/-! ### the row's step -/
theorem laidOut : laidOutB Tryd.prog = true := by kernel_rfl
set_option maxRecDepth 100000 in
theorem lifted (os : Os) (started : os.Started) (H : Type) (enc : TypeId × Value → H) :
    ReturnsInHanded {} Tryd.checked os 6 .any (fun w args => (Rows.claimSameSpec.pre enc Tryd.prog Tryd.f6 [] false w args ∧ laidMetH Tryd.prog laidL w) ∧ sizedMet enc Tryd.prog Tryd.f6 (OpenSpec.ofChange Rows.claimSameSpec) false w args) (Rows.claimSameSpec.post enc Tryd.prog Tryd.f6 false true false false) := by
  refine lift own started (by kernel_rfl) Tryd.func6
    (ChangeSpec.witness_shaped (enc := enc) (C := Tryd.checked) (os := os) (X := fun w _ => laidMetH Tryd.prog laidL w) false (World.laidAll Tryd.prog os laidL) #[.agg #[.string ByteArray.empty, .string ByteArray.empty, .string ByteArray.empty, .int .i64 0, .int .i64 0, .string ByteArray.empty, .slice none 0 0], .agg #[.string ByteArray.empty, .string ByteArray.empty, .string ByteArray.empty, .int .i64 0, .int .i64 0, .string ByteArray.empty, .slice none 0 0]] 8 (World.laidAll_os _ _ _)
      (World.shaped_of_ZipB (by kernel_rfl) (by kernel_rfl)) (by kernel_rfl) (by kernel_rfl) (by kernel_rfl)
      (by rw [MakeChecks.laidMetH_plain _ _ _ (by kernel_rfl)]; exact laidMet_laidAll _ (by kernel_rfl) (by kernel_rfl))) ?_
  intro W base args ds gs before hval0 hW hwt hT
  have hval : ∀ (j : Nat) t v, Tryd.f6.params[j]? = some t → args[j]? = some v → Value.okWide Tryd.prog W .any base t v := hval0
  have hW' := hW
  obtain ⟨p, q, hA0, hV, rfl, hfz, hnd⟩ := hW
  have hA : DataW.TrodAll enc Tryd.prog W 0 (fun _ => true) true Tryd.f6.params.toList args.toList ds p := hA0
  rw [Tryd.params6] at hA hval hwt
  obtain ⟨v0, vs0, d0, ds0, p0, q0, hargs, rfl, rfl, h0, r0⟩ := trodAll_cons hA
  obtain ⟨v1, vs1, d1, ds1, p1, q1, rfl, rfl, rfl, h1, r1⟩ := trodAll_cons r0
  obtain ⟨rfl, rfl, rfl⟩ := trodAll_nil r1
  obtain rfl : args = #[v0, v1] := by cases args; simp_all
  obtain ⟨rfl, rfl⟩ := trodVars_none hV
  have hwl : ∀ z, (z ∈ d0.weights Tryd.prog 24 → z ≤ reachBytes) ∧ (z ∈ d1.weights Tryd.prog 24 → z ≤ reachBytes) := fun z => by
    have h := List.all_eq_true.1 hwt z
    simp only [decide_eq_true_eq] at h
    refine ⟨fun hz => h ?_, fun hz => h ?_⟩
    all_goals
      simp only [List.cons_append, List.nil_append, List.toList_toArray, List.append_nil, DataW.weightsEach, List.mem_append]
      simp [hz]
  have k0 := h0
  have lt0 : ∀ x ∈ p0, x.block < W.heap.size := by obtain ⟨m, hm⟩ := k0; exact DataW.trod_lt m _ _ _ hm
  obtain ⟨x0, m0, rfl, g0, z0⟩ := open_claim (hval 0 24 v0 rfl rfl) h0 (fun z hz => (hwl z).1 hz)
  have k1 := h1
  have lt1 : ∀ x ∈ p1, x.block < W.heap.size := by obtain ⟨m, hm⟩ := k1; exact DataW.trod_lt m _ _ _ hm
  obtain ⟨x1, m1, rfl, g1, z1⟩ := open_claim (hval 1 24 v1 rfl rfl) h1 (fun z hz => (hwl z).2 hz)
  clear hA0 hval0
  refine (walk W x0 m0 g0 z0 x1 m1 g1 z1 hT).mono fun e W' ⟨he, bel⟩ => ?_
  subst he
  exact ⟨_, rfl, _, _, _, [], _, [], hW', (trodAll_cons_mk (shut_bool Tryd.underlying4 _) trodAll_mk0), (trodAll_cons_mk (Below.trod laidOut (by kernel_rfl) (of_decide_eq_true (by kernel_rfl)) k0 bel lt0) (trodAll_cons_mk (Below.trod laidOut (by kernel_rfl) (of_decide_eq_true (by kernel_rfl)) k1 bel lt1) trodAll_mk0)), rfl, bel.frame _, fun h => by cases h⟩

theorem over : Rows.claimSameRow.holds Tryd.pinned (OpenSpec.ofChange Rows.claimSameSpec) :=
  OpenClaim.holds_of_wide 6 Tryd.f6 rfl rfl rfl rfl rfl rfl rfl ⟨rfl, rfl, rfl, rfl, rfl⟩ rfl rfl rfl rfl rfl (by kernel_rfl) Tryd.func6 (by kernel_rfl)
    (of_decide_eq_true (by kernel_rfl)) (by unfold Func.isWrapper; first | (rw [if_pos (by decide +kernel)]; kernel_rfl) | (rw [if_neg (by decide +kernel)]; exact ⟨rfl, rfl⟩))
    (fun os started H enc _ => lifted os started H enc)

/-- The row's statement. -/
theorem proved : Rows.ClaimSameSaid := over
end Go.Proofs.YtpmlmoclocccoaaDoor.claimSame
namespace Go.Proofs.YtpmlmoclocccoaaDoor
theorem claimSame_holds : Rows.ClaimSameCardSaid :=
  Claim7.holds_tied_plain_at .later [] [.data] true (true, "e0c6d56abecee78b69bbdfe67875128316fb25898fd5cc9334db5ddfe1891555") false
    claimSame.proved (fun _ h => by cases h) (by kernel_rfl) (fun _ h => by cases h) claimSame_row_tie rfl ⟨rfl, rfl⟩ (by kernel_rfl) rfl
    (fun f fn hf hfn => by
      obtain rfl : f = 6 := Option.some.inj ((show Tryd.prog.funcNamed "leechbook/leechbooklaw07.ClaimSame" = some 6 by kernel_rfl).symm.trans hf) |>.symm
      obtain rfl : fn = Tryd.f6 := (Option.some.inj (Tryd.func6.symm.trans hfn)).symm
      exact ⟨by kernel_rfl, fun j t ht => by
        rw [Tryd.params6] at ht
        have hm : t ∈ [24, 24] := by simpa using Array.mem_of_getElem? ht
        have hall : ([24, 24].all fun u => !Tryd.prog.wantsStandIn u) = true := by kernel_rfl
        exact (show Tryd.prog.wantsStandIn t = false by simpa using List.all_eq_true.1 hall t hm)⟩)
    (by kernel_rfl)
#print axioms claimSame_holds
end Go.Proofs.YtpmlmoclocccoaaDoor
