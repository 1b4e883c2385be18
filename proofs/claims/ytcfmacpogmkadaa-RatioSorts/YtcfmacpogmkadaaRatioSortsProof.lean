/-
  For every list of floats (of more than 300 the law asks nothing but its own example): ratio.Sort answers what the reference answers, place by place, leaves its list alone, and ratio.Mean answers what the reference answers (what is not a number is the same whatever its bits): the law returns true and the list is as it was; no condition.
-/
import Derived.Test.YtcfmacpogmkadaaRows
import Derived.WalkKit
import Derived.ProofKit
import Derived.OpenShut
import Derived.ShutString
import Derived.Below
import Derived.Carry
import Derived.Laws.Cover2
import Derived.Test.YtcfmacpogmkadaaWOpen
namespace Go.Proofs.Ytcfmacpogmkadaa.ratioSorts
open Go.ChangeShapes Go.WideShapes Go.ChangeAt Go.RowKit Go.Sort
set_option linter.unusedVariables false

theorem own : ownKnob Try.prog.godebug = none := by kernel_rfl

/-! ### the walk: the law returns true -/
set_option maxHeartbeats 1000000 in
theorem walk (w : World) (a0 : Option Addr) (len0 cap0 : Nat) (f0 : Nat → UInt64) (w0 : Row a0 len0 f0 w) :
    Calls Try.prog 5 #[.slice a0 len0 cap0] w fun e w' => e = .returned (.bool true) ∧ Below w.heap.size w w' := by
  by_cases hn : 300 < len0
  · have hz : (300 : Int) < (len0 : Int) := by omega
    clear w0
    go_enter Try.func5, Try.ntmps5
    go_wp2_with fail
    refine (works_any _).mono ?_
    rintro e w2 ⟨rfl, B⟩
    go_wp2
    go_ret
    exact ⟨rfl, B⟩
  have hz : ¬ (300 : Int) < (len0 : Int) := by omega
  have hm : len0 < 17592186044416 := by omega
  obtain ⟨a', c', w1, hap, hr1, B1⟩ := app_new a0 len0 cap0 f0 w (by omega) w0
  have srt := sort_any a' len0 c' f0 w1 hm hr1
  have HR0 : Aside (Row a0 len0 f0 w) := w0
  have HR1 : Aside (Row a' len0 f0 w1) := hr1
  have HB1 : Aside (Below w.heap.size w w1) := B1
  clear w0 hr1 B1
  go_enter Try.func5, Try.ntmps5
  go_wp2_with (at_builtin; refine wpList_app rfl (.tmp 9) (.tmp 10) rfl rfl a0 len0 cap0 rfl rfl _ hap ?_)
  refine srt.mono ?_
  rintro e w2 ⟨rfl, d, P, Q, H, L, B2⟩
  have HP : Aside (PermIn 0 len0 (arr len0 f0) d) := P
  have HQ : Aside (SortedIn (ltOf cfF) 0 len0 d) := Q
  have HD : Aside (Row (some ⟨w1.heap.size, 0, none⟩) len0 (fun i => d[i]!) w2) := row_of_holds H (by rw [P.1, size_arr]) L
  have HB2 : Aside (Below w1.heap.size w1 w2) := B2
  have HBw : Aside (Below w.heap.size w w2) := HB1.out.trans (B2.mono HB1.out.size)
  clear P Q H L B2 srt
  have rs := refSort_any a0 len0 cap0 f0 w2 hm (row_below HR0.out HBw.out)
  go_wp2_with fail
  refine rs.mono ?_
  rintro e w3 ⟨rfl, r, hput, hout⟩
  have HO : Aside (Out w2 len0 r w3) := hout
  have sa := sameAll_any (some ⟨w1.heap.size, 0, none⟩) (some ⟨w2.heap.size, 0, none⟩) len0 len0 len0 (fun i => d[i]!) (fun i => r[i]!) w3 hm (row_below HD.out hout.below) (row_of_holds hout.holds hout.size hout.lt) (fun p hp => same_rank f0 len0 d r HP.out HQ.out hput p hp)
  have HBw3 : Aside (Below w.heap.size w w3) := HBw.out.trans (hout.below.mono HBw.out.size)
  have HR13 : Aside (Row a' len0 f0 w3) := row_below (row_below HR1.out HB2.out) hout.below
  have HR03 : Aside (Row a0 len0 f0 w3) := row_below HR0.out HBw3.out
  clear rs hput hout HO
  go_wp2_with fail
  refine sa.mono ?_
  rintro e w4 ⟨rfl, q1, rfl⟩
  have sb := sameAll_any a' a0 len0 c' cap0 f0 f0 (w3.drewN q1) hm (row_drew HR13.out q1) (row_drew HR03.out q1) (fun p hp => same_self _)
  clear sa
  go_wp2_with fail
  refine sb.mono ?_
  rintro e w4 ⟨rfl, q2, rfl⟩
  clear sb
  have m1 := fun q => mean_any a0 len0 cap0 f0 (w3.drewN q) hm (row_drew HR03.out q)
  have m2 := fun q => refMean_any a0 len0 cap0 f0 (w3.drewN q) hm (row_drew HR03.out q)
  go_wp2_with fail
  refine (m1 _).mono ?_
  rintro e w4 ⟨⟨x, rfl, x1, x2, x3⟩, q3, rfl⟩
  have sm := fun w => refSame_any x (rMean f0 len0) x1 (rMean_lt f0 len0 hm) w
  rw [same_mean f0 len0 x x2 x3] at sm
  clear x1 x2 x3 m1
  go_wp2_with fail
  refine (m2 _).mono ?_
  rintro e w4 ⟨rfl, rfl⟩
  clear m2
  go_wp2_with fail
  refine (sm _).mono ?_
  rintro e w4 ⟨rfl, rfl⟩
  clear sm
  go_wp2_with fail
  refine (works_any _).mono ?_
  rintro e w5 ⟨rfl, B⟩
  have BB : Below w.heap.size w w5 := (below_drewN' HBw3.out _).trans (B.mono (by exact HBw3.out.size))
  clear B
  go_wp2
  go_ret
  exact ⟨rfl, BB⟩

/-! ### the row's step -/
theorem laidOut : laidOutB Try.prog = true := by kernel_rfl
set_option maxRecDepth 100000 in
theorem lifted (os : Os) (started : os.Started) (H : Type) (enc : TypeId × Value → H) :
    ReturnsInHanded {} Try.checked os 5 .any (Rows.ratioSortsSpec.pre6 enc Try.prog Try.f5 Rows.ratioSortsRow.domain false) (Rows.ratioSortsSpec.post enc Try.prog Try.f5 false true false false) := by
  refine returnsInHanded_of_change (C := Try.checked) own started (by kernel_rfl) Try.func5
    (ChangeSpec.witness6 (enc := enc) (C := Try.checked) false ⟨#[], #[.slice none 0 0], []⟩ 8 (by kernel_rfl) (by kernel_rfl) (by kernel_rfl) (by kernel_rfl)) ?_
  intro W base args ds gs before hval0 hW hcnd _
  have hval : ∀ (j : Nat) t v, Try.f5.params[j]? = some t → args[j]? = some v → Value.okWide Try.prog W .any base t v := hval0
  have hW' := hW
  obtain ⟨p, q, hA0, hV, rfl, hfz, hnd⟩ := hW
  have hA : DataW.TrodAll enc Try.prog W 0 (fun _ => true) true Try.f5.params.toList args.toList ds p := hA0
  rw [Try.params5] at hA hval
  obtain ⟨v0, vs0, d0, ds0, p0, q0, hargs, rfl, rfl, h0, r0⟩ := trodAll_cons hA
  obtain ⟨rfl, rfl, rfl⟩ := trodAll_nil r0
  obtain rfl : args = #[v0] := by cases args; simp_all
  obtain ⟨rfl, rfl⟩ := trodVars_none hV
  obtain ⟨a0, len0, cap0, rfl⟩ := okWide_slice Try.underlying29 (hval 0 29 v0 rfl rfl)
  have k0 := h0
  have lt0 : ∀ x ∈ p0, x.block < W.heap.size := by obtain ⟨m, hm⟩ := k0; exact DataW.trod_lt m _ _ _ hm
  obtain ⟨f0, w0⟩ := open_row h0
  clear hA0 hval0
  refine (walk W a0 len0 cap0 f0 w0).mono fun e W' ⟨he, bel⟩ => ?_
  subst he
  exact ⟨_, rfl, _, _, _, [], _, [], hW', (trodAll_cons_mk (shut_bool Try.underlying4 _) trodAll_mk0), (trodAll_cons_mk (Below.trod laidOut (by kernel_rfl) (of_decide_eq_true (by kernel_rfl)) k0 bel lt0) trodAll_mk0), rfl, bel.frame _, fun h => by cases h⟩

theorem over : Rows.ratioSortsRow.holds Try.pinned (OpenSpec.ofChange Rows.ratioSortsSpec) :=
  OpenClaim.holds_of_wide 5 Try.f5 rfl rfl rfl rfl rfl rfl rfl ⟨rfl, rfl, rfl, rfl, rfl⟩ rfl rfl rfl rfl rfl (by kernel_rfl) Try.func5 (by kernel_rfl)
    (of_decide_eq_true (by kernel_rfl)) (by unfold Func.isWrapper; first | (rw [if_pos (by decide +kernel)]; kernel_rfl) | (rw [if_neg (by decide +kernel)]; exact ⟨rfl, rfl⟩))
    (fun os started H enc _ => lifted os started H enc)

/-- The statement. -/
theorem proved : Rows.RatioSortsSaid := over
end Go.Proofs.Ytcfmacpogmkadaa.ratioSorts
namespace Go.Proofs.Ytcfmacpogmkadaa
theorem ratioSorts_holds : Rows.RatioSortsSaid := ratioSorts.proved
#print axioms ratioSorts_holds
end Go.Proofs.Ytcfmacpogmkadaa
