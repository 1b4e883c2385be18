/-
  For every signs and every two texts: two texts, one behind the other, have both ones' segments: the law returns true. The listed tables are tied to the program's text.
-/
import Derived.Test.YtclbejgnaphekaaDoorRows
import Derived.WalkKit
import Derived.ProofKit
import Derived.OpenShut
import Derived.ShutString
import Derived.Below
import Derived.Carry
import Derived.LaidMore
import Derived.Stop.Joined
import Derived.SevenTiedAt
import Derived.Test.YtclbejgnaphekaaDoorQWorks
import Derived.Test.YtclbejgnaphekaaDoorQSame
import Derived.Test.YtclbejgnaphekaaDoorQOpen
import Derived.Test.YtclbejgnaphekaaDoorTie
import Derived.Test.YtclbejgnaphekaaDoorCards
namespace Go.Proofs.YtclbejgnaphekaaDoor.segJoins
open Go.ChangeShapes Go.WideShapes Go.ChangeAt Go.RowKit
open Go.ChangeMaps (open_string)
set_option linter.unusedVariables false
set_option linter.unusedSimpArgs false
attribute [local go_sem ↓] Go.wp_at_zero Go.wp_at_succ

theorem own : ownKnob Tryd.prog.godebug = none := by kernel_rfl

/-! ### the walk: the law returns true -/
set_option maxHeartbeats 2000000 in
theorem walk (w : World) (e0 p0 s0 : UInt8) (a1 : ByteArray) (w1 : a1.size ≤ maxLen) (a2 : ByteArray) (w2 : a2.size ≤ maxLen) (hT : Tab w) :
    Calls Tryd.prog 8 #[dv e0 p0 s0, .string a1, .string a2] w fun e w' => e = .returned (.bool true) ∧ Below w.heap.size w w' := by
  have HTb := Lib.hid hT
  have HS1 := Lib.hid w1
  have HS2 := Lib.hid w2
  have HB := Lib.hid (below_alloc w (.cells #[.int .u8 e0.toNat, .int .u8 p0.toNat, .int .u8 s0.toNat] 23))
  have HWk : Hid (∀ W, Below w.heap.size w W → Calls Tryd.prog 15 #[] W fun x w' => x = .returned (.bool true) ∧ Below W.heap.size W w') := fun W h => works_any W (tab_grw HTb.out h)
  have HDB : Hid (∀ W, Below (w.alloc (.cells #[.int .u8 e0.toNat, .int .u8 p0.toNat, .int .u8 s0.toNat] 23)).heap.size (w.alloc (.cells #[.int .u8 e0.toNat, .int .u8 p0.toNat, .int .u8 s0.toNat] 23)) W → DBox W w.heap.size e0 p0 s0 ∧ Below w.heap.size w W ∧ Tab W) := fun W h => ⟨DBox.grw (DBox.new w e0 p0 s0) h, below_trans HB.out h, tab_grw HTb.out (below_trans HB.out h)⟩
  have HR : Hid (Below (w.alloc (.cells #[.int .u8 e0.toNat, .int .u8 p0.toNat, .int .u8 s0.toNat] 23)).heap.size (w.alloc (.cells #[.int .u8 e0.toNat, .int .u8 p0.toNat, .int .u8 s0.toNat] 23)) (w.alloc (.cells #[.int .u8 e0.toNat, .int .u8 p0.toNat, .int .u8 s0.toNat] 23))) := Below.refl _ _
  unfold maxLen at w1 w2
  clear hT
  by_cases h3 : 3000 < a1.size
  · have h3' : (3000 : Int) < (a1.size : Int) := by omega
    clear h3
    go_enter Tryd.func8, Tryd.ntmps8
    go_wp2_with (go_at_call 15; refine (HWk.out _ HB.out).mono ?_; rintro x x1 ⟨rfl, hb⟩; have HB1 := Lib.hid (below_trans HB.out hb); clear hb)
    go_ret
    exact ⟨rfl, HB1.out⟩
  by_cases h4 : 3000 < a2.size
  · have h3' : ¬ (3000 : Int) < (a1.size : Int) := by omega
    have h4' : (3000 : Int) < (a2.size : Int) := by omega
    clear h3 h4
    go_enter Tryd.func8, Tryd.ntmps8
    go_wp2_with (go_at_call 15; refine (HWk.out _ HB.out).mono ?_; rintro x x1 ⟨rfl, hb⟩; have HB1 := Lib.hid (below_trans HB.out hb); clear hb)
    go_ret
    exact ⟨rfl, HB1.out⟩
  have h3' : ¬ (3000 : Int) < (a1.size : Int) := by omega
  have h4' : ¬ (3000 : Int) < (a2.size : Int) := by omega
  have hl1 : a1.size ≤ 3000 := by omega
  have hl2 : a2.size ≤ 3000 := by omega
  have hcat : (a1 ++ a2).data.toList = a1.data.toList ++ a2.data.toList := by simp
  have hcs : (a1 ++ a2).size ≤ maxLen := by rw [ByteArray.size_append]; simp only [maxLen]; omega
  have HSp1 := Lib.hid fun W h => split_any e0 p0 s0 a1 W h HS1.out
  have HSp2 := Lib.hid fun W h => split_any e0 p0 s0 a2 W h HS2.out
  have HSp3 := Lib.hid fun W h => split_any e0 p0 s0 (a1 ++ a2) W h hcs
  rw [hcat] at HSp3
  have HJ := Lib.hid fun ha hb => joins (e := e0) (p := p0) (s := s0) (a := a1.data.toList) (b := a2.data.toList) ha hb (by rw [← Lib.size_eq]; exact hl1) (by rw [← Lib.size_eq]; exact hl2)
  clear hcat hcs h3 h4
  have HPre : Hid (∀ (W : World) (x : Option Addr) (c : Nat) (La Lb : List Sg), SgAt All W (.slice x (La ++ Lb).length c) (La ++ Lb) → SgAt All W (.slice x La.length c) La) := fun W x c La Lb h => by
    obtain ⟨a, c', e, h1, h2, h3⟩ := h
    simp only [Value.slice.injEq] at e
    obtain ⟨rfl, -, rfl⟩ := e
    rw [List.length_append] at h1
    refine ⟨_, _, rfl, by omega, h2, ?_⟩
    rcases h3 with h3 | ⟨b, o, rfl, hk, hb, hc⟩
    · exact Or.inl (List.append_eq_nil_iff.1 h3).1
    · exact Or.inr ⟨b, o, rfl, hk, hb, fun j g hj => hc j g (by rw [List.getElem?_append_left (List.getElem?_eq_some_iff.1 hj).1]; exact hj)⟩
  have HSuf : Hid (∀ (W : World) (b o c : Nat) (La Lb : List Sg), SgAt All W (.slice (some ⟨b, o, none⟩) (La ++ Lb).length c) (La ++ Lb) → SgAt All W (.slice (some ⟨b, o + La.length, none⟩) Lb.length (c - La.length)) Lb) := fun W b o c La Lb h => by
    obtain ⟨a, c', e, h1, h2, h3⟩ := h
    simp only [Value.slice.injEq] at e
    obtain ⟨rfl, -, rfl⟩ := e
    rw [List.length_append] at h1
    refine ⟨_, _, rfl, by omega, by omega, ?_⟩
    rcases h3 with h3 | ⟨b', o', e, hk, hb, hc⟩
    · exact Or.inl (List.append_eq_nil_iff.1 h3).2
    · simp only [Option.some.injEq, Addr.mk.injEq] at e
      obtain ⟨rfl, rfl, -⟩ := e
      refine Or.inr ⟨b, o + La.length, rfl, hk, hb, fun j g hj => ?_⟩
      rw [Nat.add_assoc]
      exact hc (La.length + j) g (by rw [List.getElem?_append_right (by omega), Nat.add_sub_cancel_left]; exact hj)
  have HSa : Hid (∀ W u u' l, SgAt All W u l → SgAt All W u' l → Calls Tryd.prog 23 #[u, u'] W fun x w' => x = .returned (.bool true) ∧ Below W.heap.size W w') := fun W u u' l h1 h2 => (Same_any _ _ l l W h1 h2).mono fun x w' ⟨h, q, hq⟩ => ⟨by rw [h]; simp, by rw [hq]; exact below_drewN (Below.refl _ _) q⟩
  generalize hE1 : spE e0 p0 s0 a1.data.toList = E1 at *
  generalize hE2 : spE e0 p0 s0 a2.data.toList = E2 at *
  generalize hE3 : spE e0 p0 s0 (a1.data.toList ++ a2.data.toList) = E3 at *
  have HE1 := Lib.hid hE1
  have HE2 := Lib.hid hE2
  have HE3 := Lib.hid hE3
  clear hE1 hE2 hE3
  generalize spV e0 p0 s0 a1.data.toList = La at *
  generalize spV e0 p0 s0 a2.data.toList = Lb at *
  generalize spV e0 p0 s0 (a1.data.toList ++ a2.data.toList) = Lc at *
  go_enter Tryd.func8, Tryd.ntmps8
  go_upto_region 4 with (go_at_call 21; refine (HSp1.out _ (HDB.out _ HR.out).2.2).mono ?_; rintro x x1 ⟨⟨u1, rfl, hsg⟩, hb⟩; have HSG1 := Lib.hid hsg; have HR1 := Lib.hid hb; obtain ⟨⟨-, d10, d11, d12⟩, -, -⟩ := HDB.out _ hb; clear hb hsg)
  go_upto_region 5 with (go_at_call 21; refine (HSp2.out _ (HDB.out _ HR1.out).2.2).mono ?_; rintro x x2 ⟨⟨u2, rfl, hsg⟩, hb⟩; have HSG2 := Lib.hid hsg; have HB2 := Lib.hid hb; have HR2 := Lib.hid (below_trans HR1.out hb); obtain ⟨⟨-, d20, d21, d22⟩, -, -⟩ := HDB.out _ HR2.out; clear hb hsg)
  clear d10 d11 d12
  go_upto_region 6 with (go_at_call 21; refine (HSp3.out _ (HDB.out _ HR2.out).2.2).mono ?_; rintro x x3 ⟨⟨u3, rfl, hsg⟩, hb⟩; have HSG3 := Lib.hid hsg; have HB3 := Lib.hid hb; have HR3 := Lib.hid (below_trans HR2.out hb); clear hb hsg)
  clear d20 d21 d22
  have HG1 := Lib.hid (SgAt.move HSG1.out (Below.moves (below_trans HB2.out HB3.out)))
  have HG2 := Lib.hid (SgAt.move HSG2.out (Below.moves HB3.out))
  have HBX := Lib.hid (HDB.out _ HR3.out).2.1
  clear HSG1 HSG2
  by_cases q1 : E1 = 0
  case neg =>
    have q1' : (E1 != 0) = true := by simpa using q1
    clear q1
    go_wp2_with (go_at_call 15; refine (HWk.out _ HBX.out).mono ?_; rintro x x5 ⟨rfl, hb⟩; have HB5 := Lib.hid (below_trans HBX.out hb); clear hb)
    go_ret
    exact ⟨rfl, HB5.out⟩
  by_cases q2 : E2 = 0
  case neg =>
    have q1' : (E1 != 0) = false := by simpa using q1
    have q2' : (E2 != 0) = true := by simpa using q2
    clear q1 q2
    go_wp2_with (go_at_call 15; refine (HWk.out _ HBX.out).mono ?_; rintro x x5 ⟨rfl, hb⟩; have HB5 := Lib.hid (below_trans HBX.out hb); clear hb)
    go_ret
    exact ⟨rfl, HB5.out⟩
  obtain ⟨j1, j2⟩ := HJ.out q1 q2
  subst q1 q2 j1 j2
  obtain ⟨x1a, x1c, rfl, m11, m12, -⟩ := HG1.out
  obtain ⟨x2a, x2c, rfl, m21, m22, -⟩ := HG2.out
  have HG3 := HSG3
  obtain ⟨x3a, x3c, rfl, m31, m32, x3r⟩ := HSG3.out
  have HX3R := Lib.hid x3r
  clear x3r HSG3
  have HP := Lib.hid (HPre.out _ _ _ _ _ HG3.out)
  have hlen : (La ++ Lb).length = La.length + Lb.length := List.length_append
  unfold maxLen at m12 m22 m32
  rw [hlen] at m31
  by_cases hn : La ++ Lb = []
  · obtain ⟨rfl, rfl⟩ := List.append_eq_nil_iff.1 hn
    have HN : Hid (∀ W x c, c ≤ maxLen → SgAt All W (.slice x 0 c) []) := fun W x c h => ⟨x, c, rfl, Nat.zero_le _, h, Or.inl rfl⟩
    have HS1 := Lib.hid fun W x c x' c' (h : c ≤ maxLen) (h' : c' ≤ maxLen) => HSa.out W _ _ [] (HN.out W x c h) (HN.out W x' c' h')
    unfold maxLen at HS1
    clear hn hlen HP HG3 HX3R HPre HSuf HSa HG1 HG2 HJ HN
    simp only [List.append_nil, List.length_nil] at *
    cases x3a with
    | none =>
      go_wp2_with fail
      refine (HS1.out _ _ _ _ _ (by omega) (by omega)).mono ?_
      rintro x x5 ⟨rfl, hb⟩
      have HB5 := Lib.hid hb
      clear hb
      go_wp2_with fail
      refine (HS1.out _ _ _ _ _ (by omega) (by omega)).mono ?_
      rintro x x6 ⟨rfl, hb⟩
      have HB6 := Lib.hid (below_trans HBX.out (below_trans HB5.out hb))
      clear hb
      go_wp2_with (go_at_call 15; refine (HWk.out _ HB6.out).mono ?_; rintro x x7 ⟨rfl, hb⟩; have HB7 := Lib.hid (below_trans HB6.out hb); clear hb)
      go_ret
      exact ⟨rfl, HB7.out⟩
    | some ad =>
      go_wp2_with fail
      refine (HS1.out _ _ _ _ _ (by omega) (by omega)).mono ?_
      rintro x x5 ⟨rfl, hb⟩
      have HB5 := Lib.hid hb
      clear hb
      go_wp2_with fail
      refine (HS1.out _ _ _ _ _ (by omega) (by omega)).mono ?_
      rintro x x6 ⟨rfl, hb⟩
      have HB6 := Lib.hid (below_trans HBX.out (below_trans HB5.out hb))
      clear hb
      go_wp2_with (go_at_call 15; refine (HWk.out _ HB6.out).mono ?_; rintro x x7 ⟨rfl, hb⟩; have HB7 := Lib.hid (below_trans HB6.out hb); clear hb)
      go_ret
      exact ⟨rfl, HB7.out⟩
  · obtain ⟨b, o, rfl⟩ : ∃ b o, x3a = some ⟨b, o, none⟩ := by
      rcases HX3R.out with h | ⟨b, o, h, -⟩
      · exact absurd h hn
      · exact ⟨b, o, h⟩
    have HSf := Lib.hid (HSuf.out _ _ _ _ _ _ HG3.out)
    have h0 : ((La.length : Int) + (Lb.length : Int)) = ((La ++ Lb).length : Int) := by rw [hlen]; omega
    clear hn
    rw [hlen]
    by_cases hcz : x3c = La.length
    · have hb0 : Lb = [] := List.length_eq_zero_iff.1 (by omega)
      subst hb0
      have HN : Hid (∀ W x c, c ≤ maxLen → SgAt All W (.slice x 0 c) []) := fun W x c h => ⟨x, c, rfl, Nat.zero_le _, h, Or.inl rfl⟩
      have HS1 := Lib.hid (HSa.out _ _ _ La HP.out HG1.out)
      have HS2 := Lib.hid fun W x c x' c' (h : c ≤ maxLen) (h' : c' ≤ maxLen) => HSa.out W _ _ [] (HN.out W x c h) (HN.out W x' c' h')
      unfold maxLen at HS2
      clear h0 hlen HSf HP HG3 HX3R HPre HSuf HSa HG1 HG2 HJ HN
      subst hcz
      simp only [List.append_nil, List.length_nil, Nat.add_zero] at *
      generalize La.length = na at *
      have i1 : (0 : Int) ≤ (na : Int) := by omega
      go_wp2_with fail
      refine HS1.out.mono ?_
      rintro x x5 ⟨rfl, hb⟩
      have HB5 := Lib.hid hb
      clear hb
      go_wp2_with fail
      refine (HS2.out _ _ _ _ _ (by omega) (by omega)).mono ?_
      rintro x x6 ⟨rfl, hb⟩
      have HB6 := Lib.hid (below_trans HBX.out (below_trans HB5.out hb))
      clear hb
      go_wp2_with (go_at_call 15; refine (HWk.out _ HB6.out).mono ?_; rintro x x7 ⟨rfl, hb⟩; have HB7 := Lib.hid (below_trans HB6.out hb); clear hb)
      go_ret
      exact ⟨rfl, HB7.out⟩
    rw [hlen] at HG3
    have HMv : Hid (∀ W, Below x3.heap.size x3 W → SgAt All W (.slice (some ⟨b, o + La.length, none⟩) Lb.length (x3c - La.length)) Lb ∧ SgAt All W (.slice x2a Lb.length x2c) Lb) := fun W h => ⟨SgAt.move HSf.out (Below.moves h), SgAt.move HG2.out (Below.moves h)⟩
    have HS1 := Lib.hid (HSa.out _ _ _ La HP.out HG1.out)
    have HS2 := Lib.hid fun W h => HSa.out W _ _ Lb (HMv.out W h).1 (HMv.out W h).2
    clear h0 hlen HSf HMv HP HG3 HX3R HPre HSuf HSa HG1 HG2 HJ
    generalize La.length = na at *
    generalize Lb.length = nb at *
    have i1 : (0 : Int) ≤ (na : Int) := by omega
    have i5 : (na : Int) < (x3c : Int) := by omega
    have i6 : ¬ x3c - na = 0 := by omega
    have i2 : (na : Int) ≤ (x3c : Int) := by omega
    have i3 : (na : Int) ≤ (na : Int) + (nb : Int) := by omega
    have i4 : (na : Int) + (nb : Int) ≤ (x3c : Int) := by omega
    go_wp2_with fail
    refine HS1.out.mono ?_
    rintro x x5 ⟨rfl, hb⟩
    have HB5 := Lib.hid hb
    clear hb
    go_wp2_with fail
    refine (HS2.out _ HB5.out).mono ?_
    rintro x x6 ⟨rfl, hb⟩
    have HB6 := Lib.hid (below_trans HBX.out (below_trans HB5.out hb))
    clear hb
    go_wp2_with (go_at_call 15; refine (HWk.out _ HB6.out).mono ?_; rintro x x7 ⟨rfl, hb⟩; have HB7 := Lib.hid (below_trans HB6.out hb); clear hb)
    go_ret
    exact ⟨rfl, HB7.out⟩

/-! ### the row's step -/
theorem laidOut : laidOutB Tryd.prog = true := by kernel_rfl
set_option maxRecDepth 100000 in
theorem lifted (os : Os) (started : os.Started) (H : Type) (enc : TypeId × Value → H) :
    ReturnsInHanded {} Tryd.checked os 8 .any (fun w args => (Rows.segJoinsSpec.pre enc Tryd.prog Tryd.f8 [] false w args ∧ laidMetH Tryd.prog laidL w) ∧ sizedMet enc Tryd.prog Tryd.f8 (OpenSpec.ofChange Rows.segJoinsSpec) false w args) (Rows.segJoinsSpec.post enc Tryd.prog Tryd.f8 false true false false) := by
  refine lift own started (by kernel_rfl) Tryd.func8
    (ChangeSpec.witness_shaped (enc := enc) (C := Tryd.checked) (os := os) (X := fun w _ => laidMetH Tryd.prog laidL w) false (World.laidAll Tryd.prog os laidL) #[.agg #[.int .u8 0, .int .u8 0, .int .u8 0], .string ByteArray.empty, .string ByteArray.empty] 8 (World.laidAll_os _ _ _)
      (World.shaped_of_ZipB (by kernel_rfl) (by kernel_rfl)) (by kernel_rfl) (by kernel_rfl) (by kernel_rfl)
      (by rw [MakeChecks.laidMetH_plain _ _ _ (by kernel_rfl)]; exact laidMet_laidAll _ (by kernel_rfl) (by kernel_rfl))) ?_
  intro W base args ds gs before hval0 hW hwt hT
  have hval : ∀ (j : Nat) t v, Tryd.f8.params[j]? = some t → args[j]? = some v → Value.okWide Tryd.prog W .any base t v := hval0
  have hW' := hW
  obtain ⟨p, q, hA0, hV, rfl, hfz, hnd⟩ := hW
  have hA : DataW.TrodAll enc Tryd.prog W 0 (fun _ => true) true Tryd.f8.params.toList args.toList ds p := hA0
  rw [Tryd.params8] at hA hval hwt
  obtain ⟨v0, vs0, d0, ds0, p0, q0, hargs, rfl, rfl, h0, r0⟩ := trodAll_cons hA
  obtain ⟨v1, vs1, d1, ds1, p1, q1, rfl, rfl, rfl, h1, r1⟩ := trodAll_cons r0
  obtain ⟨v2, vs2, d2, ds2, p2, q2, rfl, rfl, rfl, h2, r2⟩ := trodAll_cons r1
  obtain ⟨rfl, rfl, rfl⟩ := trodAll_nil r2
  obtain rfl : args = #[v0, v1, v2] := by cases args; simp_all
  obtain ⟨rfl, rfl⟩ := trodVars_none hV
  have hwl : ∀ z, (z ∈ d0.weights Tryd.prog 23 → z ≤ reachBytes) ∧ (z ∈ d1.weights Tryd.prog 9 → z ≤ reachBytes) ∧ (z ∈ d2.weights Tryd.prog 9 → z ≤ reachBytes) := fun z => by
    have h := List.all_eq_true.1 hwt z
    simp only [decide_eq_true_eq] at h
    refine ⟨fun hz => h ?_, fun hz => h ?_, fun hz => h ?_⟩
    all_goals
      simp only [List.cons_append, List.nil_append, List.toList_toArray, List.append_nil, DataW.weightsEach, List.mem_append]
      simp [hz]
  have k0 := h0
  have lt0 : ∀ x ∈ p0, x.block < W.heap.size := by obtain ⟨m, hm⟩ := k0; exact DataW.trod_lt m _ _ _ hm
  obtain ⟨e0, pp0, s0, rfl⟩ := open_delims (hval 0 23 v0 rfl rfl) h0
  have k1 := h1
  have lt1 : ∀ x ∈ p1, x.block < W.heap.size := by obtain ⟨m, hm⟩ := k1; exact DataW.trod_lt m _ _ _ hm
  obtain ⟨a1, rfl, _, _, w1⟩ := open_string Tryd.underlying9 (hval 1 9 v1 rfl rfl) h1
  have k2 := h2
  have lt2 : ∀ x ∈ p2, x.block < W.heap.size := by obtain ⟨m, hm⟩ := k2; exact DataW.trod_lt m _ _ _ hm
  obtain ⟨a2, rfl, _, _, w2⟩ := open_string Tryd.underlying9 (hval 2 9 v2 rfl rfl) h2
  clear hA0 hval0
  refine (walk W e0 pp0 s0 a1 w1 a2 w2 hT).mono fun e W' ⟨he, bel⟩ => ?_
  subst he
  exact ⟨_, rfl, _, _, _, [], _, [], hW', (trodAll_cons_mk (shut_bool Tryd.underlying4 _) trodAll_mk0), (trodAll_cons_mk (Below.trod laidOut (by kernel_rfl) (of_decide_eq_true (by kernel_rfl)) k0 bel lt0) (trodAll_cons_mk (Below.trod laidOut (by kernel_rfl) (of_decide_eq_true (by kernel_rfl)) k1 bel lt1) (trodAll_cons_mk (Below.trod laidOut (by kernel_rfl) (of_decide_eq_true (by kernel_rfl)) k2 bel lt2) trodAll_mk0))), rfl, bel.frame _, fun h => by cases h⟩

theorem over : Rows.segJoinsRow.holds Tryd.pinned (OpenSpec.ofChange Rows.segJoinsSpec) :=
  OpenClaim.holds_of_wide 8 Tryd.f8 rfl rfl rfl rfl rfl rfl rfl ⟨rfl, rfl, rfl, rfl, rfl⟩ rfl rfl rfl rfl rfl (by kernel_rfl) Tryd.func8 (by kernel_rfl)
    (of_decide_eq_true (by kernel_rfl)) (by unfold Func.isWrapper; first | (rw [if_pos (by decide +kernel)]; kernel_rfl) | (rw [if_neg (by decide +kernel)]; exact ⟨rfl, rfl⟩))
    (fun os started H enc _ => lifted os started H enc)

/-- The row's statement. -/
theorem proved : Rows.SegJoinsSaid := over
end Go.Proofs.YtclbejgnaphekaaDoor.segJoins
namespace Go.Proofs.YtclbejgnaphekaaDoor
theorem segJoins_holds : Rows.SegJoinsCardSaid :=
  Claim7.holds_tied_plain_at .later [] [.data, .pinned] true (true, "2043d85c6e46d741d4fbbdc4b40907132dfcb425101b77815c72a7b1e469a79e") false
    segJoins.proved (fun _ h => by cases h) (by kernel_rfl) (fun _ h => by cases h) segJoins_row_tie rfl ⟨rfl, rfl⟩ (by kernel_rfl) rfl
    (fun f fn hf hfn => by
      obtain rfl : f = 8 := Option.some.inj ((show Tryd.prog.funcNamed "leechbook/leechbooklaw05.SegJoins" = some 8 by kernel_rfl).symm.trans hf) |>.symm
      obtain rfl : fn = Tryd.f8 := (Option.some.inj (Tryd.func8.symm.trans hfn)).symm
      exact ⟨by kernel_rfl, fun j t ht => by
        rw [Tryd.params8] at ht
        have hm : t ∈ [23, 9, 9] := by simpa using Array.mem_of_getElem? ht
        have hall : ([23, 9, 9].all fun u => !Tryd.prog.wantsStandIn u) = true := by kernel_rfl
        exact (show Tryd.prog.wantsStandIn t = false by simpa using List.all_eq_true.1 hall t hm)⟩)
    (by kernel_rfl)
#print axioms segJoins_holds
end Go.Proofs.YtclbejgnaphekaaDoor
