/-
  For every signs, kind, number, segments, place and text: an envelope that is cut short, or that something stands behind, is refused, if neither names an end of one: the law returns true. The listed tables are tied to the program's text.
-/
import Derived.Test.YtjidoificijcfaaDoorRows
import Derived.WalkKit
import Derived.ProofKit
import Derived.OpenShut
import Derived.ShutString
import Derived.Below
import Derived.Carry
import Derived.LaidMore
import Derived.Stop.Joined
import Derived.SevenTiedAt
import Derived.Test.YtjidoificijcfaaDoorKWorks
import Derived.Test.YtjidoificijcfaaDoorQLight
import Derived.Test.YtjidoificijcfaaDoorKCuts
import Derived.Test.YtjidoificijcfaaDoorQOpen
import Derived.Test.YtjidoificijcfaaDoorTie
import Derived.Test.YtjidoificijcfaaDoorCards
namespace Go.Proofs.YtjidoificijcfaaDoor.coverCuts
open Go.ChangeShapes Go.WideShapes Go.ChangeAt Go.RowKit
open Go.ChangeMaps (open_string)
set_option linter.unusedVariables false
set_option linter.unusedSimpArgs false
attribute [local go_sem ↓] Go.wp_at_zero Go.wp_at_succ

theorem own : ownKnob Tryd.prog.godebug = none := by kernel_rfl

/-! ### the walk: the law returns true -/
set_option maxHeartbeats 2000000 in
theorem walk (w : World) (e0 p0 s0 : UInt8) (a1 : ByteArray) (w1 : a1.size ≤ maxLen) (a2 : Int) (w2 : (Lit.int .i64 a2).wf = true) (v3 : Value) (l3 : List Sg) (w3 : SgAt All w v3 l3) (z3 : ∀ g ∈ l3, ∀ ps ∈ g, ∀ x ∈ ps, x.length ≤ 281474976710656) (a4 : Int) (w4 : (Lit.int .i64 a4).wf = true) (a5 : ByteArray) (w5 : a5.size ≤ maxLen) (hT : Tab w) :
    Calls Tryd.prog 7 #[dv e0 p0 s0, .string a1, .int .i64 a2, v3, .int .i64 a4, .string a5] w fun e w' => e = .returned (.bool true) ∧ Below w.heap.size w w' := by
  have HTb := Lib.hid hT
  have hnb : -9223372036854775808 ≤ a2 ∧ a2 ≤ 9223372036854775807 := by simpa [Lit.wf, IntKind.min, IntKind.max, IntKind.signed, IntKind.bits] using w2
  obtain ⟨n0, n1⟩ := hnb
  have hcb : -9223372036854775808 ≤ a4 ∧ a4 ≤ 9223372036854775807 := by simpa [Lit.wf, IntKind.min, IntKind.max, IntKind.signed, IntKind.bits] using w4
  obtain ⟨c0, c1⟩ := hcb
  have HB := Lib.hid (below_alloc w (.cells #[.int .u8 e0.toNat, .int .u8 p0.toNat, .int .u8 s0.toNat] 23))
  have HWk : Hid (∀ W, Below w.heap.size w W → Calls Tryd.prog 9 #[] W fun x w' => x = .returned (.bool true) ∧ Below W.heap.size W w') := fun W h => works_any W (tab_grw HTb.out h)
  have HSg : Hid (∀ W, Below w.heap.size w W → SgAt All W v3 l3) := fun W h => SgAt.move w3 (Below.moves h)
  have HLt := Lib.hid fun W h => light_any v3 l3 W h z3
  have HEn := Lib.hid fun W h => ends_any v3 l3 W h
  have H5 := Lib.hid w5
  unfold maxLen at w5
  clear hT z3 w2 w4
  obtain ⟨av, cv, rfl, -, -, -⟩ := w3
  go_enter Tryd.func7, Tryd.ntmps7
  go_wp2_with fail
  go_at_call 8
  refine (HLt.out _ (HSg.out _ HB.out)).mono ?_
  rintro x x1 ⟨⟨b, rfl, hln⟩, hw⟩
  rw [hw]
  clear hw
  have HLN := Lib.hid hln
  clear hln
  cases b
  · go_wp2_with (go_at_call 9; refine (HWk.out _ HB.out).mono ?_; rintro x x3 ⟨rfl, hb⟩; have HB3 := Lib.hid (below_trans HB.out hb); clear hb)
    go_ret
    exact ⟨rfl, HB3.out⟩
  obtain ⟨hln, hll⟩ := HLN.out rfl
  clear HLN HLt
  by_cases hm : 1000 < a5.size
  · have hm' : (1000 : Int) < (a5.size : Int) := by omega
    go_wp2_with (go_at_call 9; refine (HWk.out _ HB.out).mono ?_; rintro x x3 ⟨rfl, hb⟩; have HB3 := Lib.hid (below_trans HB.out hb); clear hb)
    go_ret
    exact ⟨rfl, HB3.out⟩
  have hm' : ¬ (1000 : Int) < (a5.size : Int) := by omega
  have HHa := Lib.hid fun W => has_any a5 W (by omega)
  go_wp2_with fail
  go_at_call 17
  refine (HHa.out _).mono ?_
  rintro x x2 ⟨⟨b, rfl, hha⟩, hw⟩
  rw [hw]
  clear hw
  have HHB := Lib.hid hha
  clear hha
  cases b
  case true =>
    go_wp2_with (go_at_call 9; refine (HWk.out _ HB.out).mono ?_; rintro x x3 ⟨rfl, hb⟩; have HB3 := Lib.hid (below_trans HB.out hb); clear hb)
    go_ret
    exact ⟨rfl, HB3.out⟩
  have HNH := Lib.hid (HHB.out rfl)
  clear HHB HHa
  have HWr := Lib.hid fun W h hT => wrap_any e0 p0 s0 a1 a2 (.slice av l3.length cv) l3 W h hT n0 n1 (by omega) (by omega)
  by_cases hk : wpE e0 p0 s0 a1.data.toList a2 l3 = 0
  case neg =>
    rw [wp_bad hk] at HWr
    have HWr2 : Hid (∀ W, SgAt All W (.slice av l3.length cv) l3 → Tab W → Calls Tryd.prog 10 #[dv e0 p0 s0, .string a1, .int .i64 a2, .slice av l3.length cv] W fun x w' => x = .returned (.tuple #[.string ⟨#[]⟩, .int .i64 (wpE e0 p0 s0 a1.data.toList a2 l3)]) ∧ Below W.heap.size W w') := HWr.out
    have heb : (wpE e0 p0 s0 a1.data.toList a2 l3 != 0) = true := by simpa using hk
    clear HWr hk hln hll
    generalize wpE e0 p0 s0 a1.data.toList a2 l3 = E at *
    go_wp2_with (first | (go_at_call 10; refine (HWr2.out _ (HSg.out _ HB.out) (tab_grw HTb.out HB.out)).mono ?_; rintro x x2 ⟨rfl, hb⟩; have HB2 := Lib.hid (below_trans HB.out hb); clear hb) | (go_at_call 9; refine (HWk.out _ HB2.out).mono ?_; rintro x x3 ⟨rfl, hb⟩; have HB3 := Lib.hid (below_trans HB2.out hb); clear hb))
    go_ret
    exact ⟨rfl, HB3.out⟩
  obtain ⟨_, _, _, _, _, hlen, hv⟩ := wp_zero hk
  have hsz : (mk (wpV e0 p0 s0 a1.data.toList a2 l3)).size = 6 + (wrT e0 p0 s0 (abt a1.data.toList a2 l3)).length := by rw [mk_size, hv, List.length_append, headL_len]
  have hs1 : 0 < (mk (wpV e0 p0 s0 a1.data.toList a2 l3)).size := by omega
  have hs2 : (mk (wpV e0 p0 s0 a1.data.toList a2 l3)).size ≤ 65536 := by omega
  have HCS := Lib.hid fun he => cut_short hk he
  have HMN := Lib.hid fun (h : a5.data.toList ≠ []) => more_no (more := a5.data.toList) hk h HNH.out
  have HBK := Lib.hid (cover_back hk)
  rw [hk] at HWr
  clear hk hlen hv hsz hln hll
  have hml := mk_list (wpV e0 p0 s0 a1.data.toList a2 l3)
  generalize hS : wpV e0 p0 s0 a1.data.toList a2 l3 = S at *
  generalize mk S = T at *
  subst hml
  clear hS
  go_wp2_with fail
  go_at_call 10
  refine (HWr.out _ (HSg.out _ HB.out) (tab_grw HTb.out HB.out)).mono ?_
  rintro x x2 ⟨rfl, hb⟩
  have HB2 := Lib.hid (below_trans HB.out hb)
  clear hb
  go_wp2_with fail
  go_at_call 18
  refine (HEn.out _ (HSg.out _ HB2.out)).mono ?_
  rintro x x4 ⟨⟨b, rfl, hha⟩, hw⟩
  rw [hw]
  clear hw
  have HHB := Lib.hid hha
  clear hha
  cases b
  case true =>
    go_wp2_with (go_at_call 9; refine (HWk.out _ HB2.out).mono ?_; rintro x x3 ⟨rfl, hb⟩; have HB3 := Lib.hid (below_trans HB2.out hb); clear hb)
    go_ret
    exact ⟨rfl, HB3.out⟩
  have HCU := Lib.hid (HCS.out (HHB.out rfl))
  clear HHB HCS
  go_upto_region 7 with fail
  obtain ⟨j, hj, hjT⟩ : ∃ j : Nat, wrap64 ((IntKind.u64.wrap a4).tmod (T.size : Int)) = (j : Int) ∧ j < T.size := law_cut a4 T.size hs1 hs2
  rw [hj]
  clear hj
  have j1 : (0 : Int) ≤ (j : Int) := by omega
  have j2 : (j : Int) ≤ (T.size : Int) := by omega
  have hx1 : (T.extract 0 j).data.toList = T.data.toList.take j := by rw [Lib.extract_data]; simp
  have hz1 : (T.extract 0 j).size ≤ maxLen := by
    rw [Lib.size_eq, hx1, List.length_take, ← Lib.size_eq]
    simp only [maxLen]
    omega
  have ho1 := fun W hT => open_any a1 (T.extract 0 j) W hT hz1
  have hn1 := HCU.out j (by rw [← Lib.size_eq]; exact hjT)
  rw [← hx1] at hn1
  obtain ⟨b1, b2, b3⟩ := op_bad hn1
  rw [b1, b2, b3] at ho1
  have heb : (opE a1.data.toList (T.extract 0 j).data.toList == 0) = false := by rw [beq_eq_false_iff_ne]; exact hn1
  generalize opE a1.data.toList (T.extract 0 j).data.toList = E1 at *
  have HO1 : Hid (∀ W, Tab W → Calls Tryd.prog 14 #[.string a1, .string (T.extract 0 j)] W fun x w' => (∃ u, x = .returned (.tuple #[.agg #[.int .u8 0, .int .u8 0, .int .u8 0], .int .i64 0, u, .int .i64 E1]) ∧ SgAt All w' u []) ∧ Below W.heap.size W w') := ho1
  clear ho1 hn1 b1 b2 b3 hz1 hx1
  go_upto_region 8 with (go_at_call 14; refine (HO1.out _ (tab_grw HTb.out HB2.out)).mono ?_; rintro x x5 ⟨⟨u, rfl, hsg⟩, hb⟩; obtain ⟨aa, cc, rfl, -, -, -⟩ := hsg; have HB5 := Lib.hid (below_trans (below_trans HB2.out hb) (below_alloc x5 (.cells #[.int .u8 0, .int .u8 0, .int .u8 0] 23))); clear hb)
  have hz2 : (T ++ a5).size ≤ maxLen := by
    rw [Nu.app_size]
    simp only [maxLen]
    omega
  have ho2 := fun W hT => open_any a1 (T ++ a5) W hT hz2
  rw [Nu.app_data] at ho2
  have ht5 := Lib.toList_data a5
  by_cases h5 : a5.data.toList = []
  · rw [h5, List.append_nil, HBK.out.1, HBK.out.2.1, HBK.out.2.2.1, HBK.out.2.2.2] at ho2
    have HO2 : Hid (∀ W, Tab W → Calls Tryd.prog 14 #[.string a1, .string (T ++ a5)] W fun x w' => (∃ u, x = .returned (.tuple #[.agg #[.int .u8 e0.toNat, .int .u8 p0.toNat, .int .u8 s0.toNat], .int .i64 a2, u, .int .i64 0]) ∧ SgAt All w' u l3) ∧ Below W.heap.size W w') := ho2
    have h5t : a5.toList = [] := by rw [ht5]; exact h5
    clear ho2 hz2 ht5 h5
    go_wp2_with (first | (go_at_call 14; refine (HO2.out _ (tab_grw HTb.out HB5.out)).mono ?_; rintro x x6 ⟨⟨u, rfl, hsg⟩, hb⟩; obtain ⟨aa, cc, rfl, -, -, -⟩ := hsg; have HB6 := Lib.hid (below_trans (below_trans HB5.out hb) (below_alloc x6 (.cells #[.int .u8 e0.toNat, .int .u8 p0.toNat, .int .u8 s0.toNat] 23))); clear hb) | (go_at_call 9; refine (HWk.out _ HB6.out).mono ?_; rintro x x3 ⟨rfl, hb⟩; have HB3 := Lib.hid (below_trans HB6.out hb); clear hb))
    go_ret
    exact ⟨rfl, HB3.out⟩
  · have hn2 := HMN.out h5
    obtain ⟨b1, b2, b3⟩ := op_bad hn2
    rw [b1, b2, b3] at ho2
    have he2 : (opE a1.data.toList (T.data.toList ++ a5.data.toList) != 0) = true := by simpa using hn2
    have h5t : ¬ a5.toList = [] := by rw [ht5]; exact h5
    have h5e : a5.toList.isEmpty = false := by
      cases h : a5.toList with
      | nil => exact absurd h h5t
      | cons x r => rfl
    generalize opE a1.data.toList (T.data.toList ++ a5.data.toList) = E2 at *
    have HO2 : Hid (∀ W, Tab W → Calls Tryd.prog 14 #[.string a1, .string (T ++ a5)] W fun x w' => (∃ u, x = .returned (.tuple #[.agg #[.int .u8 0, .int .u8 0, .int .u8 0], .int .i64 0, u, .int .i64 E2]) ∧ SgAt All w' u []) ∧ Below W.heap.size W w') := ho2
    clear ho2 hz2 ht5 h5 hn2 b1 b2 b3 HMN
    go_wp2_with (first | (go_at_call 14; refine (HO2.out _ (tab_grw HTb.out HB5.out)).mono ?_; rintro x x6 ⟨⟨u, rfl, hsg⟩, hb⟩; obtain ⟨aa, cc, rfl, -, -, -⟩ := hsg; have HB6 := Lib.hid (below_trans (below_trans HB5.out hb) (below_alloc x6 (.cells #[.int .u8 0, .int .u8 0, .int .u8 0] 23))); clear hb) | (go_at_call 9; refine (HWk.out _ HB6.out).mono ?_; rintro x x3 ⟨rfl, hb⟩; have HB3 := Lib.hid (below_trans HB6.out hb); clear hb))
    go_ret
    exact ⟨rfl, HB3.out⟩

/-! ### the row's step -/
theorem laidOut : laidOutB Tryd.prog = true := by kernel_rfl
set_option maxRecDepth 100000 in
theorem lifted (os : Os) (started : os.Started) (H : Type) (enc : TypeId × Value → H) :
    ReturnsInHanded {} Tryd.checked os 7 .any (fun w args => (Rows.coverCutsSpec.pre enc Tryd.prog Tryd.f7 [] false w args ∧ laidMetH Tryd.prog laidL w) ∧ sizedMet enc Tryd.prog Tryd.f7 (OpenSpec.ofChange Rows.coverCutsSpec) false w args) (Rows.coverCutsSpec.post enc Tryd.prog Tryd.f7 false true false false) := by
  refine lift own started (by kernel_rfl) Tryd.func7
    (ChangeSpec.witness_shaped (enc := enc) (C := Tryd.checked) (os := os) (X := fun w _ => laidMetH Tryd.prog laidL w) false (World.laidAll Tryd.prog os laidL) #[.agg #[.int .u8 0, .int .u8 0, .int .u8 0], .string ByteArray.empty, .int .i64 0, .slice none 0 0, .int .i64 0, .string ByteArray.empty] 8 (World.laidAll_os _ _ _)
      (World.shaped_of_ZipB (by kernel_rfl) (by kernel_rfl)) (by kernel_rfl) (by kernel_rfl) (by kernel_rfl)
      (by rw [MakeChecks.laidMetH_plain _ _ _ (by kernel_rfl)]; exact laidMet_laidAll _ (by kernel_rfl) (by kernel_rfl))) ?_
  intro W base args ds gs before hval0 hW hwt hT
  have hval : ∀ (j : Nat) t v, Tryd.f7.params[j]? = some t → args[j]? = some v → Value.okWide Tryd.prog W .any base t v := hval0
  have hW' := hW
  obtain ⟨p, q, hA0, hV, rfl, hfz, hnd⟩ := hW
  have hA : DataW.TrodAll enc Tryd.prog W 0 (fun _ => true) true Tryd.f7.params.toList args.toList ds p := hA0
  rw [Tryd.params7] at hA hval hwt
  obtain ⟨v0, vs0, d0, ds0, p0, q0, hargs, rfl, rfl, h0, r0⟩ := trodAll_cons hA
  obtain ⟨v1, vs1, d1, ds1, p1, q1, rfl, rfl, rfl, h1, r1⟩ := trodAll_cons r0
  obtain ⟨v2, vs2, d2, ds2, p2, q2, rfl, rfl, rfl, h2, r2⟩ := trodAll_cons r1
  obtain ⟨v3, vs3, d3, ds3, p3, q3, rfl, rfl, rfl, h3, r3⟩ := trodAll_cons r2
  obtain ⟨v4, vs4, d4, ds4, p4, q4, rfl, rfl, rfl, h4, r4⟩ := trodAll_cons r3
  obtain ⟨v5, vs5, d5, ds5, p5, q5, rfl, rfl, rfl, h5, r5⟩ := trodAll_cons r4
  obtain ⟨rfl, rfl, rfl⟩ := trodAll_nil r5
  obtain rfl : args = #[v0, v1, v2, v3, v4, v5] := by cases args; simp_all
  obtain ⟨rfl, rfl⟩ := trodVars_none hV
  have hwl : ∀ z, (z ∈ d0.weights Tryd.prog 23 → z ≤ reachBytes) ∧ (z ∈ d1.weights Tryd.prog 9 → z ≤ reachBytes) ∧ (z ∈ d2.weights Tryd.prog 3 → z ≤ reachBytes) ∧ (z ∈ d3.weights Tryd.prog 24 → z ≤ reachBytes) ∧ (z ∈ d4.weights Tryd.prog 3 → z ≤ reachBytes) ∧ (z ∈ d5.weights Tryd.prog 9 → z ≤ reachBytes) := fun z => by
    have h := List.all_eq_true.1 hwt z
    simp only [decide_eq_true_eq] at h
    refine ⟨fun hz => h ?_, fun hz => h ?_, fun hz => h ?_, fun hz => h ?_, fun hz => h ?_, fun hz => h ?_⟩
    all_goals
      simp only [List.cons_append, List.nil_append, List.toList_toArray, List.append_nil, DataW.weightsEach, List.mem_append]
      simp [hz]
  have k0 := h0
  have lt0 : ∀ x ∈ p0, x.block < W.heap.size := by obtain ⟨m, hm⟩ := k0; exact DataW.trod_lt m _ _ _ hm
  obtain ⟨e0, pp0, s0, rfl⟩ := open_delims (hval 0 23 v0 rfl rfl) h0
  have k1 := h1
  have lt1 : ∀ x ∈ p1, x.block < W.heap.size := by obtain ⟨m, hm⟩ := k1; exact DataW.trod_lt m _ _ _ hm
  obtain ⟨a1, rfl, _, _, w1⟩ := open_string Tryd.underlying9 (hval 1 9 v1 rfl rfl) h1
  have k2 := h2
  have lt2 : ∀ x ∈ p2, x.block < W.heap.size := by obtain ⟨m, hm⟩ := k2; exact DataW.trod_lt m _ _ _ hm
  obtain ⟨a2, rfl, _, _, w2⟩ := open_int Tryd.underlying3 (hval 2 3 v2 rfl rfl) h2
  have k3 := h3
  have lt3 : ∀ x ∈ p3, x.block < W.heap.size := by obtain ⟨m, hm⟩ := k3; exact DataW.trod_lt m _ _ _ hm
  obtain ⟨l3, w3, z3⟩ := open_segs h3 (okWide_slice Tryd.underlying24 (hval 3 24 v3 rfl rfl)) (fun z hz => (hwl z).2.2.2.1 hz)
  have k4 := h4
  have lt4 : ∀ x ∈ p4, x.block < W.heap.size := by obtain ⟨m, hm⟩ := k4; exact DataW.trod_lt m _ _ _ hm
  obtain ⟨a4, rfl, _, _, w4⟩ := open_int Tryd.underlying3 (hval 4 3 v4 rfl rfl) h4
  have k5 := h5
  have lt5 : ∀ x ∈ p5, x.block < W.heap.size := by obtain ⟨m, hm⟩ := k5; exact DataW.trod_lt m _ _ _ hm
  obtain ⟨a5, rfl, _, _, w5⟩ := open_string Tryd.underlying9 (hval 5 9 v5 rfl rfl) h5
  clear hA0 hval0
  refine (walk W e0 pp0 s0 a1 w1 a2 w2 v3 l3 w3 z3 a4 w4 a5 w5 hT).mono fun e W' ⟨he, bel⟩ => ?_
  subst he
  exact ⟨_, rfl, _, _, _, [], _, [], hW', (trodAll_cons_mk (shut_bool Tryd.underlying4 _) trodAll_mk0), (trodAll_cons_mk (Below.trod laidOut (by kernel_rfl) (of_decide_eq_true (by kernel_rfl)) k0 bel lt0) (trodAll_cons_mk (Below.trod laidOut (by kernel_rfl) (of_decide_eq_true (by kernel_rfl)) k1 bel lt1) (trodAll_cons_mk (Below.trod laidOut (by kernel_rfl) (of_decide_eq_true (by kernel_rfl)) k2 bel lt2) (trodAll_cons_mk (Below.trod laidOut (by kernel_rfl) (of_decide_eq_true (by kernel_rfl)) k3 bel lt3) (trodAll_cons_mk (Below.trod laidOut (by kernel_rfl) (of_decide_eq_true (by kernel_rfl)) k4 bel lt4) (trodAll_cons_mk (Below.trod laidOut (by kernel_rfl) (of_decide_eq_true (by kernel_rfl)) k5 bel lt5) trodAll_mk0)))))), rfl, bel.frame _, fun h => by cases h⟩

theorem over : Rows.coverCutsRow.holds Tryd.pinned (OpenSpec.ofChange Rows.coverCutsSpec) :=
  OpenClaim.holds_of_wide 7 Tryd.f7 rfl rfl rfl rfl rfl rfl rfl ⟨rfl, rfl, rfl, rfl, rfl⟩ rfl rfl rfl rfl rfl (by kernel_rfl) Tryd.func7 (by kernel_rfl)
    (of_decide_eq_true (by kernel_rfl)) (by unfold Func.isWrapper; first | (rw [if_pos (by decide +kernel)]; kernel_rfl) | (rw [if_neg (by decide +kernel)]; exact ⟨rfl, rfl⟩))
    (fun os started H enc _ => lifted os started H enc)

/-- The row's statement. -/
theorem proved : Rows.CoverCutsSaid := over
end Go.Proofs.YtjidoificijcfaaDoor.coverCuts
namespace Go.Proofs.YtjidoificijcfaaDoor
theorem coverCuts_holds : Rows.CoverCutsCardSaid :=
  Claim7.holds_tied_plain_at .later [] [.data, .data, .data, .data, .pinned] true (true, "2d2f9c332a5f6900600230bb8b72244ea9d178c45feadf0fb18f32c3500bf0bf") false
    coverCuts.proved (fun _ h => by cases h) (by kernel_rfl) (fun _ h => by cases h) coverCuts_row_tie rfl ⟨rfl, rfl⟩ (by kernel_rfl) rfl
    (fun f fn hf hfn => by
      obtain rfl : f = 7 := Option.some.inj ((show Tryd.prog.funcNamed "leechbook/leechbooklaw06.CoverCuts" = some 7 by kernel_rfl).symm.trans hf) |>.symm
      obtain rfl : fn = Tryd.f7 := (Option.some.inj (Tryd.func7.symm.trans hfn)).symm
      exact ⟨by kernel_rfl, fun j t ht => by
        rw [Tryd.params7] at ht
        have hm : t ∈ [23, 9, 3, 24, 3, 9] := by simpa using Array.mem_of_getElem? ht
        have hall : ([23, 9, 3, 24, 3, 9].all fun u => !Tryd.prog.wantsStandIn u) = true := by kernel_rfl
        exact (show Tryd.prog.wantsStandIn t = false by simpa using List.all_eq_true.1 hall t hm)⟩)
    (by kernel_rfl)
#print axioms coverCuts_holds
end Go.Proofs.YtjidoificijcfaaDoor
