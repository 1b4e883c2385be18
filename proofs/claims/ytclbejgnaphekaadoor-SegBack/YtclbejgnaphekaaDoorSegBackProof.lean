/-
  For every signs and every segments: what is written is read again as what it was: the law returns true. The listed tables are tied to the program's text.
-/
import Derived.Test.YtclbejgnaphekaaDoorRows
import Derived.WalkKit
import Derived.ProofKit
import Derived.OpenShut
import Derived.ShutString
import Derived.Below
import Derived.Carry
import Derived.LaidMore
import Derived.Stop.Joined
import Derived.SevenTiedAt
import Derived.Test.YtclbejgnaphekaaDoorQWorks
import Derived.Test.YtclbejgnaphekaaDoorQLight
import Derived.Test.YtclbejgnaphekaaDoorQSame
import Derived.Test.YtclbejgnaphekaaDoorQOpen
import Derived.Test.YtclbejgnaphekaaDoorTie
import Derived.Test.YtclbejgnaphekaaDoorCards
namespace Go.Proofs.YtclbejgnaphekaaDoor.segBack
open Go.ChangeShapes Go.WideShapes Go.ChangeAt Go.RowKit
open Go.ChangeMaps (open_string)
set_option linter.unusedVariables false
set_option linter.unusedSimpArgs false
attribute [local go_sem ↓] Go.wp_at_zero Go.wp_at_succ

theorem own : ownKnob Tryd.prog.godebug = none := by kernel_rfl

/-! ### the walk: the law returns true -/
set_option maxHeartbeats 2000000 in
theorem walk (w : World) (e0 p0 s0 : UInt8) (v1 : Value) (l1 : List Sg) (w1 : SgAt All w v1 l1) (z1 : ∀ g ∈ l1, ∀ ps ∈ g, ∀ x ∈ ps, x.length ≤ 281474976710656) (hT : Tab w) :
    Calls Tryd.prog 6 #[dv e0 p0 s0, v1] w fun e w' => e = .returned (.bool true) ∧ Below w.heap.size w w' := by
  have HTb := Lib.hid hT
  have HB := Lib.hid (below_alloc w (.cells #[.int .u8 e0.toNat, .int .u8 p0.toNat, .int .u8 s0.toNat] 23))
  have HWk : Hid (∀ W, Below w.heap.size w W → Calls Tryd.prog 15 #[] W fun x w' => x = .returned (.bool true) ∧ Below W.heap.size W w') := fun W h => works_any W (tab_grw HTb.out h)
  have HSg : Hid (∀ W, Below w.heap.size w W → SgAt All W v1 l1) := fun W h => SgAt.move w1 (Below.moves h)
  have HLt := Lib.hid fun W h => light_any v1 l1 W h z1
  have HBX := Lib.hid (DBox.new w e0 p0 s0)
  clear hT z1
  obtain ⟨a1, c1, rfl, -, -, -⟩ := w1
  go_enter Tryd.func6, Tryd.ntmps6
  go_upto_if 11 with (go_at_call 16; refine (HLt.out _ (HSg.out _ HB.out)).mono ?_; rintro x x1 ⟨⟨b, rfl, hln⟩, hw⟩; rw [hw]; clear hw; have HLN := Lib.hid hln; clear hln)
  cases b
  · go_wp2_with (go_at_call 15; refine (HWk.out _ HB.out).mono ?_; rintro x x3 ⟨rfl, hb⟩; have HB3 := Lib.hid (below_trans HB.out hb); clear hb)
    go_ret
    exact ⟨rfl, HB3.out⟩
  have hln : ln l1 ≤ 6000 := HLN.out rfl
  clear HLN HLt
  have HWr := Lib.hid fun W h => write_any e0 p0 s0 (.slice a1 l1.length c1) l1 W h (by omega)
  cases hk : wrOk e0 p0 s0 l1
  · rw [(wr_bad hk).1, (wr_bad hk).2] at HWr
    have HWr2 : Hid (∀ W, SgAt All W (.slice a1 l1.length c1) l1 → Calls Tryd.prog 17 #[dv e0 p0 s0, .slice a1 l1.length c1] W fun x w' => x = .returned (.tuple #[.string ⟨#[]⟩, .int .i64 1]) ∧ Below W.heap.size W w') := HWr.out
    clear HWr hk
    go_wp2_with (first | (go_at_call 17; refine (HWr2.out _ (HSg.out _ HB.out)).mono ?_; rintro x x2 ⟨rfl, hb⟩; have HB2 := Lib.hid (below_trans HB.out hb); clear hb) | (go_at_call 15; refine (HWk.out _ HB2.out).mono ?_; rintro x x3 ⟨rfl, hb⟩; have HB3 := Lib.hid (below_trans HB2.out hb); clear hb))
    go_ret
    exact ⟨rfl, HB3.out⟩
  obtain ⟨b1, b2⟩ := back hk (by omega)
  have hlen := wrT_len l1 (wr_ok hk).2.2
  rw [(wr_good hk).1, (wr_good hk).2] at HWr
  have hsp := fun W h => split_any e0 p0 s0 (mk (wrT e0 p0 s0 l1)) W h (by rw [mk_size, hlen]; simp only [maxLen]; omega)
  rw [mk_list, b1, b2] at hsp
  have HSp := Lib.hid hsp
  have HSa : Hid (∀ W u, SgAt All W (.slice a1 l1.length c1) l1 → SgAt All W u l1 → Calls Tryd.prog 23 #[.slice a1 l1.length c1, u] W fun x w' => x = .returned (.bool true) ∧ Below W.heap.size W w') := fun W u h1 h2 => (Same_any _ _ l1 l1 W h1 h2).mono fun x w' ⟨h, q, hq⟩ => ⟨by rw [h]; simp, by rw [hq]; exact below_drewN (Below.refl _ _) q⟩
  clear hk b1 b2 hlen hsp hln
  generalize mk (wrT e0 p0 s0 l1) = T at *
  go_wp2_with (first | (go_at_call 17; refine (HWr.out _ (HSg.out _ HB.out)).mono ?_; rintro x x2 ⟨rfl, hb⟩; have HB2 := Lib.hid (below_trans HB.out hb); have HX2 := Lib.hid (DBox.grw HBX.out hb); obtain ⟨-, d0, d1, d2⟩ := HX2.out; clear hb) | (go_at_call 21; refine (HSp.out _ (tab_grw HTb.out HB2.out)).mono ?_; rintro x x4 ⟨⟨u, rfl, hsg⟩, hb⟩; have HSG := Lib.hid hsg; have HB4 := Lib.hid (below_trans HB2.out hb); clear hb hsg) | (go_at_call 23; refine (HSa.out _ _ (HSg.out _ HB4.out) HSG.out).mono ?_; rintro x x5 ⟨rfl, hb⟩; have HB5 := Lib.hid (below_trans HB4.out hb); clear hb) | (go_at_call 15; refine (HWk.out _ HB5.out).mono ?_; rintro x x3 ⟨rfl, hb⟩; have HB3 := Lib.hid (below_trans HB5.out hb); clear hb))
  go_ret
  exact ⟨rfl, HB3.out⟩

/-! ### the row's step -/
theorem laidOut : laidOutB Tryd.prog = true := by kernel_rfl
set_option maxRecDepth 100000 in
theorem lifted (os : Os) (started : os.Started) (H : Type) (enc : TypeId × Value → H) :
    ReturnsInHanded {} Tryd.checked os 6 .any (fun w args => (Rows.segBackSpec.pre enc Tryd.prog Tryd.f6 [] false w args ∧ laidMetH Tryd.prog laidL w) ∧ sizedMet enc Tryd.prog Tryd.f6 (OpenSpec.ofChange Rows.segBackSpec) false w args) (Rows.segBackSpec.post enc Tryd.prog Tryd.f6 false true false false) := by
  refine lift own started (by kernel_rfl) Tryd.func6
    (ChangeSpec.witness_shaped (enc := enc) (C := Tryd.checked) (os := os) (X := fun w _ => laidMetH Tryd.prog laidL w) false (World.laidAll Tryd.prog os laidL) #[.agg #[.int .u8 0, .int .u8 0, .int .u8 0], .slice none 0 0] 8 (World.laidAll_os _ _ _)
      (World.shaped_of_ZipB (by kernel_rfl) (by kernel_rfl)) (by kernel_rfl) (by kernel_rfl) (by kernel_rfl)
      (by rw [MakeChecks.laidMetH_plain _ _ _ (by kernel_rfl)]; exact laidMet_laidAll _ (by kernel_rfl) (by kernel_rfl))) ?_
  intro W base args ds gs before hval0 hW hwt hT
  have hval : ∀ (j : Nat) t v, Tryd.f6.params[j]? = some t → args[j]? = some v → Value.okWide Tryd.prog W .any base t v := hval0
  have hW' := hW
  obtain ⟨p, q, hA0, hV, rfl, hfz, hnd⟩ := hW
  have hA : DataW.TrodAll enc Tryd.prog W 0 (fun _ => true) true Tryd.f6.params.toList args.toList ds p := hA0
  rw [Tryd.params6] at hA hval hwt
  obtain ⟨v0, vs0, d0, ds0, p0, q0, hargs, rfl, rfl, h0, r0⟩ := trodAll_cons hA
  obtain ⟨v1, vs1, d1, ds1, p1, q1, rfl, rfl, rfl, h1, r1⟩ := trodAll_cons r0
  obtain ⟨rfl, rfl, rfl⟩ := trodAll_nil r1
  obtain rfl : args = #[v0, v1] := by cases args; simp_all
  obtain ⟨rfl, rfl⟩ := trodVars_none hV
  have hwl : ∀ z, (z ∈ d0.weights Tryd.prog 23 → z ≤ reachBytes) ∧ (z ∈ d1.weights Tryd.prog 31 → z ≤ reachBytes) := fun z => by
    have h := List.all_eq_true.1 hwt z
    simp only [decide_eq_true_eq] at h
    refine ⟨fun hz => h ?_, fun hz => h ?_⟩
    all_goals
      simp only [List.cons_append, List.nil_append, List.toList_toArray, List.append_nil, DataW.weightsEach, List.mem_append]
      simp [hz]
  have k0 := h0
  have lt0 : ∀ x ∈ p0, x.block < W.heap.size := by obtain ⟨m, hm⟩ := k0; exact DataW.trod_lt m _ _ _ hm
  obtain ⟨e0, pp0, s0, rfl⟩ := open_delims (hval 0 23 v0 rfl rfl) h0
  have k1 := h1
  have lt1 : ∀ x ∈ p1, x.block < W.heap.size := by obtain ⟨m, hm⟩ := k1; exact DataW.trod_lt m _ _ _ hm
  obtain ⟨l1, w1, z1⟩ := open_segs h1 (okWide_slice Tryd.underlying31 (hval 1 31 v1 rfl rfl)) (fun z hz => (hwl z).2 hz)
  clear hA0 hval0
  refine (walk W e0 pp0 s0 v1 l1 w1 z1 hT).mono fun e W' ⟨he, bel⟩ => ?_
  subst he
  exact ⟨_, rfl, _, _, _, [], _, [], hW', (trodAll_cons_mk (shut_bool Tryd.underlying4 _) trodAll_mk0), (trodAll_cons_mk (Below.trod laidOut (by kernel_rfl) (of_decide_eq_true (by kernel_rfl)) k0 bel lt0) (trodAll_cons_mk (Below.trod laidOut (by kernel_rfl) (of_decide_eq_true (by kernel_rfl)) k1 bel lt1) trodAll_mk0)), rfl, bel.frame _, fun h => by cases h⟩

theorem over : Rows.segBackRow.holds Tryd.pinned (OpenSpec.ofChange Rows.segBackSpec) :=
  OpenClaim.holds_of_wide 6 Tryd.f6 rfl rfl rfl rfl rfl rfl rfl ⟨rfl, rfl, rfl, rfl, rfl⟩ rfl rfl rfl rfl rfl (by kernel_rfl) Tryd.func6 (by kernel_rfl)
    (of_decide_eq_true (by kernel_rfl)) (by unfold Func.isWrapper; first | (rw [if_pos (by decide +kernel)]; kernel_rfl) | (rw [if_neg (by decide +kernel)]; exact ⟨rfl, rfl⟩))
    (fun os started H enc _ => lifted os started H enc)

/-- The row's statement. -/
theorem proved : Rows.SegBackSaid := over
end Go.Proofs.YtclbejgnaphekaaDoor.segBack
namespace Go.Proofs.YtclbejgnaphekaaDoor
theorem segBack_holds : Rows.SegBackCardSaid :=
  Claim7.holds_tied_plain_at .later [] [.data, .pinned] true (true, "2043d85c6e46d741d4fbbdc4b40907132dfcb425101b77815c72a7b1e469a79e") false
    segBack.proved (fun _ h => by cases h) (by kernel_rfl) (fun _ h => by cases h) segBack_row_tie rfl ⟨rfl, rfl⟩ (by kernel_rfl) rfl
    (fun f fn hf hfn => by
      obtain rfl : f = 6 := Option.some.inj ((show Tryd.prog.funcNamed "leechbook/leechbooklaw05.SegBack" = some 6 by kernel_rfl).symm.trans hf) |>.symm
      obtain rfl : fn = Tryd.f6 := (Option.some.inj (Tryd.func6.symm.trans hfn)).symm
      exact ⟨by kernel_rfl, fun j t ht => by
        rw [Tryd.params6] at ht
        have hm : t ∈ [23, 31] := by simpa using Array.mem_of_getElem? ht
        have hall : ([23, 31].all fun u => !Tryd.prog.wantsStandIn u) = true := by kernel_rfl
        exact (show Tryd.prog.wantsStandIn t = false by simpa using List.all_eq_true.1 hall t hm)⟩)
    (by kernel_rfl)
#print axioms segBack_holds
end Go.Proofs.YtclbejgnaphekaaDoor
