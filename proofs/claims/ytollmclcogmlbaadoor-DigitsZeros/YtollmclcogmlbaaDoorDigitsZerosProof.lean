/-
  For every int64 and every uint8: an amount without a dot, with a dot and a nought, and with two, is the same amount; one with a digit behind the dot is it with a nought behind: the law returns true. The listed tables are tied to the program's text.
-/
import Derived.Test.YtollmclcogmlbaaDoorRows
import Derived.WalkKit
import Derived.ProofKit
import Derived.OpenShut
import Derived.Below
import Derived.LaidMore
import Derived.Stop.Joined
import Derived.SevenTiedAt
import Derived.Test.YtollmclcogmlbaaDoorNMore
import Derived.Test.YtollmclcogmlbaaDoorNLaid
import Derived.Test.YtollmclcogmlbaaDoorTie
import Derived.Test.YtollmclcogmlbaaDoorCards
import Derived.ShutString
namespace Go.Proofs.YtollmclcogmlbaaDoor.digitsZeros
open Go.ChangeShapes Go.WideShapes Go.ChangeAt Go.RowKit
open Go.ChangeMaps (open_string shut_string)
set_option linter.unusedVariables false      -- a walk need not use every 'w<i>' (that an integer argument fits its kind)

theorem own : ownKnob Tryd.prog.godebug = none := by kernel_rfl

/-! ### STEP 1: THE WALK: the Go text returns true. 'Grown w w'': the world has at most new blocks (Derived/RowKit3.lean). Part the cases AHEAD of 'go_enter' where a test parts the walk; take each callee by a contract of your own. -/
theorem walk (a0 : Int) (a1 : Int) (w0 : (Lit.int .i64 a0).wf = true) (w1 : (Lit.int .u8 a1).wf = true) (w : World) (hT : Tab w) :
    Calls Tryd.prog 8 #[.int .i64 a0, .int .u8 a1] w fun e w' => e = .returned (.bool true) ∧ Below w.heap.size w w' := by
  obtain ⟨l0, u0⟩ := bounds_i64 w0
  have hw : Grw w w := grw_refl w
  by_cases n0 : a0 < 0
  · go_enter Tryd.func8, Tryd.ntmps8
    go_wp2_with (first | (go_at_call 13; refine (works_any _ hT).mono ?_; rintro e w1 ⟨rfl, g1⟩; replace hw := grw_trans hw g1; replace hT := tab_grw hT g1; clear g1))
    go_ret
    exact ⟨rfl, hw⟩
  by_cases n1 : 99999999999 < a0
  · go_enter Tryd.func8, Tryd.ntmps8
    go_wp2_with (first | (go_at_call 13; refine (works_any _ hT).mono ?_; rintro e w1 ⟨rfl, g1⟩; replace hw := grw_trans hw g1; replace hT := tab_grw hT g1; clear g1))
    go_ret
    exact ⟨rfl, hw⟩
  obtain ⟨b1, b2⟩ := bounds_u8 w1
  obtain ⟨u, rfl⟩ : ∃ u : Nat, a0 = (u : Int) := ⟨a0.toNat, by omega⟩
  obtain ⟨k, hk⟩ : ∃ k : Nat, a1 % 10 = (k : Int) := ⟨(a1 % 10).toNat, by omega⟩
  have hk9 : k < 10 := by omega
  obtain ⟨o1, o2, o3, o4⟩ := one_ok k hk9
  have hl := dec_len u 11 (by omega) (by omega)
  have hl2 := dec_len k 1 (by omega) (by omega)
  obtain ⟨p1, p2⟩ := mn_bare u (by omega) (by omega)
  obtain ⟨q1, q2⟩ := mn_dot u [48] rfl (by omega) (by show u * 100 + 0 ≤ _; omega)
  obtain ⟨r1, r2⟩ := mn_dot u [48, 48] rfl (by omega) (by show u * 100 + 0 ≤ _; omega)
  obtain ⟨s1, s2⟩ := mn_dot u (Lib.decDigits k) o1 (by omega) (by rw [o2]; omega)
  obtain ⟨t1, t2⟩ := mn_dot u (Lib.decDigits k ++ [48]) o3 (by omega) (by rw [o4]; omega)
  obtain ⟨S, HS⟩ : ∃ S : ByteArray, Hid ((⟨(Lib.itoa (u : Int)).toArray⟩ : ByteArray) = S) := ⟨_, rfl⟩
  obtain ⟨K, HK⟩ : ∃ K : ByteArray, Hid ((⟨(Lib.itoa (a1 % 10)).toArray⟩ : ByteArray) = K) := ⟨_, rfl⟩
  have eS : S = ⟨(Lib.decDigits u).toArray⟩ := by rw [← HS.out, Lib.itoa_nonneg]
  have eK : K = ⟨(Lib.decDigits k).toArray⟩ := by rw [← HK.out, hk, Lib.itoa_nonneg]
  have sS : S.size ≤ 11 := by rw [Lib.size_eq, eS]; exact hl
  have sK : K.size ≤ 1 := by rw [Lib.size_eq, eK]; exact hl2
  have E0 := Lib.hid eS
  have E1 : Hid (S ++ ⟨#[46, 48]⟩ = ⟨(Lib.decDigits u ++ 46 :: [48]).toArray⟩) := by show _ = _; rw [eS]; exact str_app _ [46, 48]
  have E2 : Hid (S ++ ⟨#[46, 48, 48]⟩ = ⟨(Lib.decDigits u ++ 46 :: [48, 48]).toArray⟩) := by show _ = _; rw [eS]; exact str_app _ [46, 48, 48]
  have E3 : Hid (S ++ ⟨#[46]⟩ ++ K = ⟨(Lib.decDigits u ++ 46 :: Lib.decDigits k).toArray⟩) := by
    show _ = _
    rw [eS, eK]
    apply ByteArray.ext; simp
  have E4 : Hid (S ++ ⟨#[46]⟩ ++ K ++ ⟨#[48]⟩ = ⟨(Lib.decDigits u ++ 46 :: (Lib.decDigits k ++ [48])).toArray⟩) := by
    show _ = _
    rw [eS, eK]
    apply ByteArray.ext; simp
  have P1 := Lib.hid (show mnV (Lib.decDigits u) = (u : Int) * 100 by rw [p2]; omega)
  have Q1 := Lib.hid (show mnV (Lib.decDigits u ++ 46 :: [48]) = (u : Int) * 100 by rw [q2, show ctV [48] = 0 from rfl]; omega)
  have R1 := Lib.hid (show mnV (Lib.decDigits u ++ 46 :: [48, 48]) = (u : Int) * 100 by rw [r2, show ctV [48, 48] = 0 from rfl]; omega)
  have S1 := Lib.hid (show mnV (Lib.decDigits u ++ 46 :: Lib.decDigits k) = (u : Int) * 100 + a1 % 10 * 10 by rw [s2, o2]; omega)
  have T1 := Lib.hid (show mnV (Lib.decDigits u ++ 46 :: (Lib.decDigits k ++ [48])) = (u : Int) * 100 + a1 % 10 * 10 by rw [t2, o4]; omega)
  have P2 := Lib.hid (mn_ok _ p1)
  have Q2 := Lib.hid (mn_ok _ q1)
  have R2 := Lib.hid (mn_ok _ r1)
  have S2 := Lib.hid (mn_ok _ s1)
  have T2 := Lib.hid (mn_ok _ t1)
  have L0 := Lib.hid (show (Lib.decDigits u).length ≤ 40 by omega)
  have L1 := Lib.hid (show (Lib.decDigits u ++ 46 :: [48]).length ≤ 40 by rw [List.length_append]; show _ + 2 ≤ _; omega)
  have L2 := Lib.hid (show (Lib.decDigits u ++ 46 :: [48, 48]).length ≤ 40 by rw [List.length_append]; show _ + 3 ≤ _; omega)
  have L3 := Lib.hid (show (Lib.decDigits u ++ 46 :: Lib.decDigits k).length ≤ 40 by rw [List.length_append, List.length_cons]; omega)
  have L4 := Lib.hid (show (Lib.decDigits u ++ 46 :: (Lib.decDigits k ++ [48])).length ≤ 40 by rw [List.length_append, List.length_cons, List.length_append]; show _ + (_ + 1 + 1) ≤ _; omega)
  clear p1 p2 q1 q2 r1 r2 s1 s2 t1 t2 o1 o2 o3 o4 eS eK hk hk9 hl hl2 w0 w1
  go_enter Tryd.func8, Tryd.ntmps8
  go_wp2_with (first | (go_at_call 9; refine (int_at (u : Int) l0 u0 _ hT S HS.out).mono ?_; rintro e w1 ⟨rfl, g1⟩; replace hw := grw_trans hw g1; replace hT := tab_grw hT g1; clear g1; clear HS) | (go_at_call 16; refine (readMoney_s S _ (Lib.decDigits u) ((u : Int) * 100) 0 E0.out L0.out P1.out P2.out).mono ?_; rintro e w1 ⟨rfl, g1⟩; replace hw := grw_trans hw g1; replace hT := tab_grw hT g1; clear g1; refine Hid.out ?_))
  refine Lib.hid ?_
  go_wp2_with (first | (go_at_call 16; refine (readMoney_s _ _ _ ((u : Int) * 100) 0 E1.out L1.out Q1.out Q2.out).mono ?_; rintro e w1 ⟨rfl, g1⟩; replace hw := grw_trans hw g1; replace hT := tab_grw hT g1; clear g1; refine Hid.out ?_))
  refine Lib.hid ?_
  go_wp2_with (first | (go_at_call 16; refine (readMoney_s _ _ _ ((u : Int) * 100) 0 E2.out L2.out R1.out R2.out).mono ?_; rintro e w1 ⟨rfl, g1⟩; replace hw := grw_trans hw g1; replace hT := tab_grw hT g1; clear g1; refine Hid.out ?_))
  refine Lib.hid ?_
  go_wp2_with (first | (go_at_call 9; refine (int_at (a1 % 10) (by omega) (by omega) _ hT K HK.out).mono ?_; rintro e w1 ⟨rfl, g1⟩; replace hw := grw_trans hw g1; replace hT := tab_grw hT g1; clear g1; clear HK) | (go_at_call 16; refine (readMoney_s _ _ _ ((u : Int) * 100 + a1 % 10 * 10) 0 E3.out L3.out S1.out S2.out).mono ?_; rintro e w1 ⟨rfl, g1⟩; replace hw := grw_trans hw g1; replace hT := tab_grw hT g1; clear g1; refine Hid.out ?_))
  refine Lib.hid ?_
  go_wp2_with (first | (go_at_call 16; refine (readMoney_s _ _ _ ((u : Int) * 100 + a1 % 10 * 10) 0 E4.out L4.out T1.out T2.out).mono ?_; rintro e w1 ⟨rfl, g1⟩; replace hw := grw_trans hw g1; replace hT := tab_grw hT g1; clear g1; refine Hid.out ?_))
  refine Lib.hid ?_
  go_wp2_with (first | (go_at_call 13; refine (works_any _ hT).mono ?_; rintro e w1 ⟨rfl, g1⟩; replace hw := grw_trans hw g1; replace hT := tab_grw hT g1; clear g1))
  go_ret
  exact ⟨rfl, hw⟩

/-! ### THE ROW's STEP: WRITTEN OUT: LEAVE IT -/
set_option maxRecDepth 100000 in
theorem lifted (os : Os) (started : os.Started) (H : Type) (enc : TypeId × Value → H) :
    ReturnsInHanded {} Tryd.checked os 8 .any (fun w args => (Rows.digitsZerosSpec.pre enc Tryd.prog Tryd.f8 [] false w args ∧ laidMetH Tryd.prog laidL w) ∧ sizedMet enc Tryd.prog Tryd.f8 (OpenSpec.ofChange Rows.digitsZerosSpec) false w args) (Rows.digitsZerosSpec.post enc Tryd.prog Tryd.f8 false true false false) := by
  refine returnsInHanded_of_change_and (C := Tryd.checked) (X := fun w _ => laidMetH Tryd.prog laidL w) (fun _ _ _ hh h => h.of_heap hh) own started (by kernel_rfl) Tryd.func8
    (ChangeSpec.witness_shaped (enc := enc) (C := Tryd.checked) (os := os) (X := fun w _ => laidMetH Tryd.prog laidL w) false (World.doorLaid Tryd.prog 400 os) #[.int .i64 0, .int .u8 0] 8 rfl (World.shaped_of_RefB (by kernel_rfl) (by kernel_rfl)) (by kernel_rfl) (by kernel_rfl) (by kernel_rfl) (door_met os _)) ?_
  intro W base args ds gs before hval0 hW _ _ hL _
  have hval : ∀ (j : Nat) t v, Tryd.f8.params[j]? = some t → args[j]? = some v → Value.okWide Tryd.prog W .any base t v := hval0
  have hW' := hW
  obtain ⟨p, q, hA0, hV, rfl, hfz, hnd⟩ := hW
  have hA : DataW.TrodAll enc Tryd.prog W 0 (fun _ => true) true Tryd.f8.params.toList args.toList ds p := hA0
  rw [Tryd.params8] at hA hval
  obtain ⟨v0, vs0, d0, ds0, p0, q0, hargs, rfl, rfl, h0, r0⟩ := trodAll_cons hA
  obtain ⟨v1, vs1, d1, ds1, p1, q1, rfl, rfl, rfl, h1, r1⟩ := trodAll_cons r0
  obtain ⟨rfl, rfl, rfl⟩ := trodAll_nil r1
  obtain rfl : args = #[v0, v1] := by cases args; simp_all
  obtain ⟨rfl, rfl⟩ := trodVars_none hV
  obtain ⟨a0, rfl, rfl, rfl, w0⟩ := open_int Tryd.underlying2 (hval 0 2 v0 rfl rfl) h0
  obtain ⟨a1, rfl, rfl, rfl, w1⟩ := open_int Tryd.underlying5 (hval 1 5 v1 rfl rfl) h1
  clear hA0 hval0
  simp only [List.append_nil] at hW'
  refine (walk a0 a1 w0 w1 W (of_laid hL)).mono fun e W' ⟨he, bel⟩ => ?_
  subst he
  exact ⟨_, rfl, _, _, _, [], [], [], hW', (trodAll_cons_mk (shut_bool Tryd.underlying4 _) trodAll_mk0), (trodAll_cons_mk (shut_int Tryd.underlying2 w0) (trodAll_cons_mk (shut_int Tryd.underlying5 w1) trodAll_mk0)), rfl, bel.frame _, fun h => by cases h⟩

theorem over : Rows.digitsZerosRow.holds Tryd.pinned (OpenSpec.ofChange Rows.digitsZerosSpec) :=
  OpenClaim.holds_of_wide 8 Tryd.f8 rfl rfl rfl rfl rfl rfl rfl ⟨rfl, rfl, rfl, rfl, rfl⟩ rfl rfl rfl rfl rfl (by kernel_rfl) Tryd.func8 (by kernel_rfl)
    (of_decide_eq_true (by kernel_rfl)) (by unfold Func.isWrapper; first | (rw [if_pos (by decide +kernel)]; kernel_rfl) | (rw [if_neg (by decide +kernel)]; exact ⟨rfl, rfl⟩))
    (fun os started H enc _ => lifted os started H enc)

/-- ████ THE STATEMENT ████ -/
theorem proved : Rows.DigitsZerosSaid :=
  over
end Go.Proofs.YtollmclcogmlbaaDoor.digitsZeros
namespace Go.Proofs.YtollmclcogmlbaaDoor
theorem digitsZeros_holds : Rows.DigitsZerosCardSaid :=
  Claim7.holds_tied_plain_at .later [] [.data, .data, .data] true (true, "bfc12cd362c365bbd82ac4e39799d8475ca28f2c5fd4c40c4f92336aa7adb358") false
    digitsZeros.proved (fun _ h => by cases h) (by kernel_rfl) (fun _ h => by cases h) digitsZeros_row_tie rfl ⟨rfl, rfl⟩ (by kernel_rfl) rfl
    (fun f fn hf hfn => by
      obtain rfl : f = 8 := Option.some.inj ((show Tryd.prog.funcNamed "leechbook/leechbooklaw03.DigitsZeros" = some 8 by kernel_rfl).symm.trans hf) |>.symm
      obtain rfl : fn = Tryd.f8 := (Option.some.inj (Tryd.func8.symm.trans hfn)).symm
      exact ⟨by kernel_rfl, fun j t ht => by
        rw [Tryd.params8] at ht
        have hm : t ∈ [2, 5] := by simpa using Array.mem_of_getElem? ht
        have hall : ([2, 5].all fun u => !Tryd.prog.wantsStandIn u) = true := by kernel_rfl
        exact (show Tryd.prog.wantsStandIn t = false by simpa using List.all_eq_true.1 hall t hm)⟩)
    (by kernel_rfl)
#print axioms digitsZeros_holds
end Go.Proofs.YtollmclcogmlbaaDoor
