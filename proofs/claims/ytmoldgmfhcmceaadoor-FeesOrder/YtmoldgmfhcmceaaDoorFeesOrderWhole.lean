/-
  FeesOrder holds for every two texts: both ways round come to the same.
-/
import Derived.WalkKit
import Derived.ProofKit
import Derived.OpenShut
import Derived.ShutString
import Derived.Below
import Derived.Carry
import Derived.LaidMore
import Derived.Stop.Joined
import Derived.SevenTiedAt
import Derived.Deep.DeepCutAuto
import Derived.Test.YtmoldgmfhcmceaaDoorRows
import Derived.Test.YtmoldgmfhcmceaaDoorTie
import Derived.Test.YtmoldgmfhcmceaaDoorCards
import Derived.Test.YtmoldgmfhcmceaaDoorMb1
import Derived.Test.YtmoldgmfhcmceaaDoorMb2
import Derived.Test.YtmoldgmfhcmceaaDoorMb3
import Derived.Test.YtmoldgmfhcmceaaDoorMb4
import Derived.Test.YtmoldgmfhcmceaaDoorMb5
import Derived.Test.YtmoldgmfhcmceaaDoorMb6
import Derived.Test.YtmoldgmfhcmceaaDoorMb7
import Derived.Test.YtmoldgmfhcmceaaDoorMb8
import Derived.Test.YtmoldgmfhcmceaaDoorMb9
import Derived.Test.YtmoldgmfhcmceaaDoorMb10
import Derived.Test.YtmoldgmfhcmceaaDoorMb11
import Derived.Test.YtmoldgmfhcmceaaDoorMb12
import Derived.Test.YtmoldgmfhcmceaaDoorMb13
import Derived.Test.YtmoldgmfhcmceaaDoorMb14
import Derived.Test.YtmoldgmfhcmceaaDoorMb15
import Derived.Test.YtmoldgmfhcmceaaDoorMb16
import Derived.Test.YtmoldgmfhcmceaaDoorMb17
import Derived.Test.YtmoldgmfhcmceaaDoorMb18
import Derived.Test.YtmoldgmfhcmceaaDoorMb19
import Derived.Test.YtmoldgmfhcmceaaDoorMb20
import Derived.Test.YtmoldgmfhcmceaaDoorMb21
import Derived.Test.YtmoldgmfhcmceaaDoorMb22
import Derived.Test.YtmoldgmfhcmceaaDoorMb23
import Derived.Test.YtmoldgmfhcmceaaDoorMb24
import Derived.Test.YtmoldgmfhcmceaaDoorMb25
import Derived.Test.YtmoldgmfhcmceaaDoorMb26
import Derived.Test.YtmoldgmfhcmceaaDoorMb27
import Derived.Test.YtmoldgmfhcmceaaDoorMb28
import Derived.Test.YtmoldgmfhcmceaaDoorMb29
import Derived.Test.YtmoldgmfhcmceaaDoorMb30
import Derived.Test.YtmoldgmfhcmceaaDoorMb31
import Derived.Test.YtmoldgmfhcmceaaDoorMb32
import Derived.Test.YtmoldgmfhcmceaaDoorMb33
import Derived.Test.YtmoldgmfhcmceaaDoorMb34
namespace Go.Proofs.YtmoldgmfhcmceaaDoor.feesOrder
open Go.ChangeShapes Go.WideShapes Go.ChangeAt Go.RowKit
open Fo
open Fe
open Cm (Ln lnv LnOk)
open Wo (Wd WdsAt box_cell box_two keepB heap_far below_alloc below_trans)
open Go.ChangeMaps (open_string)
set_option linter.unusedVariables false
set_option linter.unusedSimpArgs false


theorem own : ownKnob Tryd.prog.godebug = none := by kernel_rfl

/-! ### the walk: the law returns true -/
set_option maxHeartbeats 8000000 in
theorem walk (w : World) (a0 : ByteArray) (w0 : a0.size ≤ maxLen) (a1 : ByteArray) (w1 : a1.size ≤ maxLen) (hT : Nu.Tab w ∧ Da.Tab w) :
    Calls Tryd.prog 4 #[.string a0, .string a1] w fun e w' => e = .returned (.bool true) ∧ Below w.heap.size w w' := by
  obtain ⟨hN, hD⟩ := hT
  have HWk : Hid (∀ W, Below w.heap.size w W → Calls Tryd.prog 6 #[] W fun e w' => e = .returned (.bool true) ∧ Below W.heap.size W w') := fun W hW => works_any W (Cm.tab_below hD hW) (Nu.tab_grw hN hW)
  have HB0 := Lib.hid (Below.refl w.heap.size w)
  have HL0 : Hid (a0.data.toList.length = a0.size) := (Lib.size_eq a0).symm
  have HL1 : Hid (a1.data.toList.length = a1.size) := (Lib.size_eq a1).symm
  by_cases hl : 3000 < a0.size
  · have hl' : (3000 : Int) < (a0.size : Int) := by omega
    clear hl
    go_enter Tryd.func4, Tryd.ntmps4
    go_wp2_with (go_at_call 6; refine (HWk.out _ HB0.out).mono ?_; rintro e w9 ⟨rfl, hb9⟩; have HB9 := Lib.hid (below_trans HB0.out hb9); clear hb9)
    go_ret
    exact ⟨rfl, HB9.out⟩
  have hl' : ¬ (3000 : Int) < (a0.size : Int) := by omega
  by_cases hm : 3000 < a1.size
  · have hm' : (3000 : Int) < (a1.size : Int) := by omega
    clear hl hm
    go_enter Tryd.func4, Tryd.ntmps4
    go_wp2_with (go_at_call 6; refine (HWk.out _ HB0.out).mono ?_; rintro e w9 ⟨rfl, hb9⟩; have HB9 := Lib.hid (below_trans HB0.out hb9); clear hb9)
    go_ret
    exact ⟨rfl, HB9.out⟩
  have hm' : ¬ (3000 : Int) < (a1.size : Int) := by omega
  have s1 : (a0 ++ (⟨#[32]⟩ : ByteArray)).size = a0.size + 1 := by rw [ByteArray.size_append]; rfl
  have s2 : (a0 ++ (⟨#[32]⟩ : ByteArray) ++ a1).size = a0.size + 1 + a1.size := by rw [ByteArray.size_append, s1]
  have s3 : (a1 ++ (⟨#[32]⟩ : ByteArray)).size = a1.size + 1 := by rw [ByteArray.size_append]; rfl
  have s4 : (a1 ++ (⟨#[32]⟩ : ByteArray) ++ a0).size = a1.size + 1 + a0.size := by rw [ByteArray.size_append, s3]
  have e1 : (a0 ++ (⟨#[32]⟩ : ByteArray) ++ a1).data.toList = a0.data.toList ++ 32 :: a1.data.toList := by rw [Wo.mk_cat3]; simp
  have e2 : (a1 ++ (⟨#[32]⟩ : ByteArray) ++ a0).data.toList = a1.data.toList ++ 32 :: a0.data.toList := by rw [Wo.mk_cat3]; simp
  have g1 : (a0 ++ (⟨#[32]⟩ : ByteArray) ++ a1).size ≤ maxLen := by rw [s2]; unfold maxLen; omega
  have g2 : (a1 ++ (⟨#[32]⟩ : ByteArray) ++ a0).size ≤ maxLen := by rw [s4]; unfold maxLen; omega
  have HP0 : Hid (∀ W, Below w.heap.size w W → _) := fun W hW => parse_uni a0 W w0 (Cm.tab_below hD hW)
  have HP1 : Hid (∀ W, Below w.heap.size w W → _) := fun W hW => parse_uni a1 W w1 (Cm.tab_below hD hW)
  have HTwo : Hid ((∃ l, paR a0.data.toList = .ok l) → (∃ l, paR a1.data.toList = .ok l) → (∃ p q, paR (a0 ++ (⟨#[32]⟩ : ByteArray) ++ a1).data.toList = .error (10, p) ∧ paR (a1 ++ (⟨#[32]⟩ : ByteArray) ++ a0).data.toList = .error (10, q)) ∨ ∃ l E, E ≠ 10 ∧ l.length ≤ 512 ∧ ((paR (a0 ++ (⟨#[32]⟩ : ByteArray) ++ a1).data.toList = .ok l ∧ E = 0) ∨ (paR (a0 ++ (⟨#[32]⟩ : ByteArray) ++ a1).data.toList = .error (E, 0) ∧ l = [])) ∧ ((paR (a1 ++ (⟨#[32]⟩ : ByteArray) ++ a0).data.toList = .ok l ∧ E = 0) ∨ (paR (a1 ++ (⟨#[32]⟩ : ByteArray) ++ a0).data.toList = .error (E, 0) ∧ l = []))) := fun ⟨l, hl⟩ ⟨r, hr⟩ => by
    have := HL0.out
    have := HL1.out
    rw [e1, e2]
    rcases order_two (by omega) hl hr with ⟨p, q, k1, k2⟩ | ⟨l, k1, k2, k3⟩ | ⟨k1, k2⟩
    · exact Or.inl ⟨p, q, k1, k2⟩
    · exact Or.inr ⟨l, 0, by decide, k3, Or.inl ⟨k1, rfl⟩, Or.inl ⟨k2, rfl⟩⟩
    · exact Or.inr ⟨[], 12, by decide, by decide, Or.inr ⟨k1, rfl⟩, Or.inr ⟨k2, rfl⟩⟩
  have HDt : Hid (∀ W, Below w.heap.size w W → Da.Tab W) := fun W hW => Cm.tab_below hD hW
  have HG1 := Lib.hid g1
  have HG2 := Lib.hid g2
  clear hl hm e1 e2 HL0 HL1 g1 g2 w0 w1 hN hD
  go_enter Tryd.func4, Tryd.ntmps4
  go_wp2_with fail
  go_at_call 8
  refine (HP0.out _ HB0.out).mono ?_
  rintro e w1 ⟨⟨p1, n1, c1, E1, A1, rfl, hE1⟩, hb1⟩
  have HE1 := Lib.hid hE1
  have hb2 := below_alloc w1 (.cells #[.int .i64 E1, .int .i64 A1] 29)
  have HB2 := Lib.hid (below_trans hb1 hb2)
  have HF2 := Lib.hid (heap_alloc_new w1 (.cells #[.int .i64 E1, .int .i64 A1] 29))
  clear hb1 hb2 hE1 HP0 HB0
  go_upto_region 4 with fail
  generalize w1.alloc (.cells #[.int .i64 E1, .int .i64 A1] 29) = W2 at *
  generalize w1.heap.size = b1 at *
  go_wp2_with fail
  go_at_call 8
  refine (HP1.out _ HB2.out).mono ?_
  rintro e w3 ⟨⟨p2, n2, c2, E2, A2, rfl, hE2⟩, hb3⟩
  have HE2 := Lib.hid hE2
  have hb4 := below_alloc w3 (.cells #[.int .i64 E2, .int .i64 A2] 29)
  have HB4 := Lib.hid (below_trans HB2.out (below_trans hb3 hb4))
  have HF4 := Lib.hid (keepB HF2.out (below_trans hb3 hb4))
  have HG4 := Lib.hid (heap_alloc_new w3 (.cells #[.int .i64 E2, .int .i64 A2] 29))
  clear hb3 hb4 hE2 HP1 HB2 HF2
  go_upto_region 5 with fail
  generalize w3.alloc (.cells #[.int .i64 E2, .int .i64 A2] 29) = W4 at *
  generalize w3.heap.size = b3 at *
  obtain ⟨f0, f1, -, -⟩ := box_two HF4.out
  obtain ⟨k0, k1, -, -⟩ := box_two HG4.out
  by_cases h1 : E1 = 0
  rotate_left
  · have q1 : (E1 != 0) = true := by simpa using h1
    clear h1 HE1 HE2 HTwo
    go_wp2_with (go_at_call 6; refine (HWk.out _ HB4.out).mono ?_; rintro e w9 ⟨rfl, hb9⟩; have HB9 := Lib.hid (below_trans HB4.out hb9); clear hb9)
    go_ret
    exact ⟨rfl, HB9.out⟩
  have q1 : (E1 != 0) = false := by rw [h1]; rfl
  by_cases h2 : E2 = 0
  rotate_left
  · have q2 : (E2 != 0) = true := by simpa using h2
    clear h1 h2 HE1 HE2 HTwo
    go_wp2_with (go_at_call 6; refine (HWk.out _ HB4.out).mono ?_; rintro e w9 ⟨rfl, hb9⟩; have HB9 := Lib.hid (below_trans HB4.out hb9); clear hb9)
    go_ret
    exact ⟨rfl, HB9.out⟩
  have q2 : (E2 != 0) = false := by rw [h2]; rfl
  have hw := HTwo.out (HE1.out h1) (HE2.out h2)
  clear h1 h2 HE1 HE2 HTwo
  rcases hw with ⟨P, Q, k1, k2⟩ | ⟨l, E, hE, hl5, k1, k2⟩
  · have HQ1 : Hid (∀ W, Below w.heap.size w W → _) := fun W hW => parse_lim _ W HG1.out (HDt.out W hW) 10 P k1
    have HQ2 : Hid (∀ W, Below w.heap.size w W → _) := fun W hW => parse_lim _ W HG2.out (HDt.out W hW) 10 Q k2
    clear k1 k2 HG1 HG2 HDt
    go_wp2_with fail
    go_at_call 8
    refine (HQ1.out _ HB4.out).mono ?_
    rintro e w5 ⟨rfl, hb5⟩
    have hb6 := below_alloc w5 (.cells #[.int .i64 10, .int .i64 (P : Nat)] 29)
    have HB6 := Lib.hid (below_trans HB4.out (below_trans hb5 hb6))
    have HF6 := Lib.hid (heap_alloc_new w5 (.cells #[.int .i64 10, .int .i64 (P : Nat)] 29))
    clear hb5 hb6 HQ1 HB4 HF4 HG4 f0 f1 k0 k1
    go_upto_region 8 with fail
    generalize w5.alloc (.cells #[.int .i64 10, .int .i64 (P : Nat)] 29) = W6 at *
    generalize w5.heap.size = b5 at *
    go_wp2_with fail
    go_at_call 8
    refine (HQ2.out _ HB6.out).mono ?_
    rintro e w7 ⟨rfl, hb7⟩
    have hb8 := below_alloc w7 (.cells #[.int .i64 10, .int .i64 (Q : Nat)] 29)
    have HB8 := Lib.hid (below_trans HB6.out (below_trans hb7 hb8))
    have HF8 := Lib.hid (keepB HF6.out (below_trans hb7 hb8))
    have HG8 := Lib.hid (heap_alloc_new w7 (.cells #[.int .i64 10, .int .i64 (Q : Nat)] 29))
    clear hb7 hb8 HQ2 HB6 HF6
    go_upto_region 9 with fail
    generalize w7.alloc (.cells #[.int .i64 10, .int .i64 (Q : Nat)] 29) = W8 at *
    generalize w7.heap.size = b7 at *
    obtain ⟨f0, f1, -, -⟩ := box_two HF8.out
    obtain ⟨k0, k1, -, -⟩ := box_two HG8.out
    go_wp2_with (go_at_call 6; refine (HWk.out _ HB8.out).mono ?_; rintro e w9 ⟨rfl, hb9⟩; have HB9 := Lib.hid (below_trans HB8.out hb9); clear hb9)
    go_ret
    exact ⟨rfl, HB9.out⟩
  · have HQ1 : Hid (∀ W, Below w.heap.size w W → _) := fun W hW => parse_same _ W HG1.out (HDt.out W hW) l E k1
    have HQ2 : Hid (∀ W, Below w.heap.size w W → _) := fun W hW => parse_same _ W HG2.out (HDt.out W hW) l E k2
    have HSm := Lib.hid fun W u v hu hv => same_eq l u v W hu hv (by omega)
    have q5 : (E == 10) = false := by simpa using hE
    clear k1 k2 HG1 HG2 HDt hE hl5
    go_wp2_with fail
    go_at_call 8
    refine (HQ1.out _ HB4.out).mono ?_
    rintro e w5 ⟨⟨p5, c5, rfl, hr5⟩, hb5⟩
    have hb6 := below_alloc w5 (.cells #[.int .i64 E, .int .i64 0] 29)
    have HB6 := Lib.hid (below_trans HB4.out (below_trans hb5 hb6))
    have HF6 := Lib.hid (heap_alloc_new w5 (.cells #[.int .i64 E, .int .i64 0] 29))
    have HR6 := Lib.hid (hr5.grw hb6)
    clear hb5 hb6 hr5 HQ1 HB4 HF4 HG4 f0 f1 k0 k1
    go_upto_region 8 with fail
    generalize w5.alloc (.cells #[.int .i64 E, .int .i64 0] 29) = W6 at *
    generalize w5.heap.size = b5 at *
    go_wp2_with fail
    go_at_call 8
    refine (HQ2.out _ HB6.out).mono ?_
    rintro e w7 ⟨⟨p7, c7, rfl, hr7⟩, hb7⟩
    have hb8 := below_alloc w7 (.cells #[.int .i64 E, .int .i64 0] 29)
    have HB8 := Lib.hid (below_trans HB6.out (below_trans hb7 hb8))
    have HF8 := Lib.hid (keepB HF6.out (below_trans hb7 hb8))
    have HG8 := Lib.hid (heap_alloc_new w7 (.cells #[.int .i64 E, .int .i64 0] 29))
    have HS8 := Lib.hid (HSm.out _ _ _ (HR6.out.grw (below_trans hb7 hb8)) (hr7.grw hb8))
    clear hb7 hb8 hr7 HQ2 HB6 HF6 HR6 HSm
    go_upto_region 9 with fail
    generalize w7.alloc (.cells #[.int .i64 E, .int .i64 0] 29) = W8 at *
    generalize w7.heap.size = b7 at *
    obtain ⟨f0, f1, -, -⟩ := box_two HF8.out
    obtain ⟨k0, k1, -, -⟩ := box_two HG8.out
    go_wp2_with (first | (go_at_call 9; refine HS8.out.mono ?_; rintro e w10 ⟨rfl, hb10⟩; have HB10 := Lib.hid (below_trans HB8.out hb10); clear hb10) | (go_at_call 6; refine (HWk.out _ HB10.out).mono ?_; rintro e w9 ⟨rfl, hb9⟩; have HB9 := Lib.hid (below_trans HB10.out hb9); clear hb9))
    go_ret
    exact ⟨rfl, HB9.out⟩

/-! ### the row's step -/
theorem laidOut : laidOutB Tryd.prog = true := by kernel_rfl
set_option maxRecDepth 100000 in
theorem lifted (os : Os) (started : os.Started) (H : Type) (enc : TypeId × Value → H) :
    ReturnsInHanded {} Tryd.checked os 4 .any (fun w args => (Rows.feesOrderSpec.pre enc Tryd.prog Tryd.f4 [] false w args ∧ laidMetH Tryd.prog laidL w) ∧ sizedMet enc Tryd.prog Tryd.f4 (OpenSpec.ofChange Rows.feesOrderSpec) false w args) (Rows.feesOrderSpec.post enc Tryd.prog Tryd.f4 false true false false) := by
  refine lift own started (by kernel_rfl) Tryd.func4
    (ChangeSpec.witness_shaped (enc := enc) (C := Tryd.checked) (os := os) (X := fun w _ => laidMetH Tryd.prog laidL w) false (World.laidAll Tryd.prog os laidL) #[.string ByteArray.empty, .string ByteArray.empty] 8 (World.laidAll_os _ _ _)
      (World.shaped_of_ZipB (by kernel_rfl) (by kernel_rfl)) (by kernel_rfl) (by kernel_rfl) (by kernel_rfl)
      (by rw [MakeChecks.laidMetH_plain _ _ _ (by kernel_rfl)]; exact laidMet_laidAll _ (by kernel_rfl) (by kernel_rfl))) ?_
  intro W base args ds gs before hval0 hW hwt hT
  have hval : ∀ (j : Nat) t v, Tryd.f4.params[j]? = some t → args[j]? = some v → Value.okWide Tryd.prog W .any base t v := hval0
  have hW' := hW
  obtain ⟨p, q, hA0, hV, rfl, hfz, hnd⟩ := hW
  have hA : DataW.TrodAll enc Tryd.prog W 0 (fun _ => true) true Tryd.f4.params.toList args.toList ds p := hA0
  rw [Tryd.params4] at hA hval hwt
  obtain ⟨v0, vs0, d0, ds0, p0, q0, hargs, rfl, rfl, h0, r0⟩ := trodAll_cons hA
  obtain ⟨v1, vs1, d1, ds1, p1, q1, rfl, rfl, rfl, h1, r1⟩ := trodAll_cons r0
  obtain ⟨rfl, rfl, rfl⟩ := trodAll_nil r1
  obtain rfl : args = #[v0, v1] := by cases args; simp_all
  obtain ⟨rfl, rfl⟩ := trodVars_none hV
  have hwl : ∀ z, (z ∈ d0.weights Tryd.prog 9 → z ≤ reachBytes) ∧ (z ∈ d1.weights Tryd.prog 9 → z ≤ reachBytes) := fun z => by
    have h := List.all_eq_true.1 hwt z
    simp only [decide_eq_true_eq] at h
    refine ⟨fun hz => h ?_, fun hz => h ?_⟩
    all_goals
      simp only [List.cons_append, List.nil_append, List.toList_toArray, List.append_nil, DataW.weightsEach, List.mem_append]
      simp [hz]
  have k0 := h0
  have lt0 : ∀ x ∈ p0, x.block < W.heap.size := by obtain ⟨m, hm⟩ := k0; exact DataW.trod_lt m _ _ _ hm
  obtain ⟨a0, rfl, _, _, w0⟩ := open_string Tryd.underlying9 (hval 0 9 v0 rfl rfl) h0
  have k1 := h1
  have lt1 : ∀ x ∈ p1, x.block < W.heap.size := by obtain ⟨m, hm⟩ := k1; exact DataW.trod_lt m _ _ _ hm
  obtain ⟨a1, rfl, _, _, w1⟩ := open_string Tryd.underlying9 (hval 1 9 v1 rfl rfl) h1
  clear hA0 hval0
  refine (walk W a0 w0 a1 w1 hT).mono fun e W' ⟨he, bel⟩ => ?_
  subst he
  exact ⟨_, rfl, _, _, _, [], _, [], hW', (trodAll_cons_mk (shut_bool Tryd.underlying4 _) trodAll_mk0), (trodAll_cons_mk (Below.trod laidOut (by kernel_rfl) (of_decide_eq_true (by kernel_rfl)) k0 bel lt0) (trodAll_cons_mk (Below.trod laidOut (by kernel_rfl) (of_decide_eq_true (by kernel_rfl)) k1 bel lt1) trodAll_mk0)), rfl, bel.frame _, fun h => by cases h⟩

theorem over : Rows.feesOrderRow.holds Tryd.pinned (OpenSpec.ofChange Rows.feesOrderSpec) :=
  OpenClaim.holds_of_wide 4 Tryd.f4 rfl rfl rfl rfl rfl rfl rfl ⟨rfl, rfl, rfl, rfl, rfl⟩ rfl rfl rfl rfl rfl (by kernel_rfl) Tryd.func4 (by kernel_rfl)
    (of_decide_eq_true (by kernel_rfl)) (by unfold Func.isWrapper; first | (rw [if_pos (by decide +kernel)]; kernel_rfl) | (rw [if_neg (by decide +kernel)]; exact ⟨rfl, rfl⟩))
    (fun os started H enc _ => lifted os started H enc)

/-- The row's statement. -/
theorem proved : Rows.FeesOrderSaid := over
end Go.Proofs.YtmoldgmfhcmceaaDoor.feesOrder
namespace Go.Proofs.YtmoldgmfhcmceaaDoor
theorem feesOrder_holds : Rows.FeesOrderCardSaid :=
  Claim7.holds_tied_plain_at .later [] [.data, .data, .data, .data] true (true, "dc6de08f986fe839d9b4d4c88e23b1a0f0b8862dcb03fb9235ab3580fe1b0240") false
    feesOrder.proved (fun _ h => by cases h) (by kernel_rfl) (fun _ h => by cases h) feesOrder_row_tie rfl ⟨rfl, rfl⟩ (by kernel_rfl) rfl
    (fun f fn hf hfn => by
      obtain rfl : f = 4 := Option.some.inj ((show Tryd.prog.funcNamed "leechbook/leechbooklaw12.FeesOrder" = some 4 by kernel_rfl).symm.trans hf) |>.symm
      obtain rfl : fn = Tryd.f4 := (Option.some.inj (Tryd.func4.symm.trans hfn)).symm
      exact ⟨by kernel_rfl, fun j t ht => by
        rw [Tryd.params4] at ht
        have hm : t ∈ [9, 9] := by simpa using Array.mem_of_getElem? ht
        have hall : ([9, 9].all fun u => !Tryd.prog.wantsStandIn u) = true := by kernel_rfl
        exact (show Tryd.prog.wantsStandIn t = false by simpa using List.all_eq_true.1 hall t hm)⟩)
    (by kernel_rfl)
#print axioms feesOrder_holds
end Go.Proofs.YtmoldgmfhcmceaaDoor
