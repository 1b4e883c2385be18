/-
  What ratio.Kind, ratio.Cmp and the reference's Cmp and Same answer, as contracts: for every float.
-/
import Derived.Test.YtcfmacpogmkadaaFKind
namespace Go.Proofs.Ytcfmacpogmkadaa
open Go.RowKit

theorem cmp_nn {a b : Nat} (h : kindV a = 6) (k : kindV b = 6) : cmpV a b = 0 := by simp [cmpV, h, k]
theorem cmp_n1 {a b : Nat} (h : kindV a = 6) (k : kindV b ≠ 6) : cmpV a b = 1 := by simp [cmpV, h, Ne.symm k]
theorem cmp_1n {a b : Nat} (h : kindV a ≠ 6) (k : kindV b = 6) : cmpV a b = -1 := by simp [cmpV, h, k]
theorem cmp_11 {a b : Nat} (h : kindV a ≠ 6) (k : kindV b ≠ 6) : cmpV a b = if placeV a < placeV b then -1 else if placeV b < placeV a then 1 else 0 := by simp [cmpV, h, k]

theorem refCmp_any (a b : Nat) (ha : a < 18446744073709551616) (hb : b < 18446744073709551616) (w : World) :
    Calls Try.prog 16 #[.float .f64 a, .float .f64 b] w fun e w' => e = .returned (.int .i64 (cmpV a b)) ∧ w' = w := by
  have ka := fun w => refKind_any a ha w
  have kb := fun w => refKind_any b hb w
  have pa := fun w => refPlace_any a ha w
  have pb := fun w => refPlace_any b hb w
  clear ha hb
  by_cases ja : kindV a = 6
  · rw [ja] at ka
    by_cases jb : kindV b = 6
    · rw [jb] at kb
      rw [cmp_nn ja jb]
      clear ja jb
      go_enter Try.func16, Try.ntmps16
      go_wp2_with fail
      refine (ka _).mono ?_
      rintro e w' ⟨rfl, rfl⟩
      go_wp2_with fail
      refine (kb _).mono ?_
      rintro e w' ⟨rfl, rfl⟩
      clear ka kb pa pb
      go_wp2
      go_ret
      exact ⟨rfl, rfl⟩
    · have f1 : (kindV b == 6) = false := by rw [beq_eq_false_iff_ne]; exact jb
      have f2 : ((6 : Int) == kindV b) = false := by rw [beq_eq_false_iff_ne]; exact Ne.symm jb
      rw [cmp_n1 ja jb]
      clear ja jb
      generalize kindV b = k at *
      go_enter Try.func16, Try.ntmps16
      go_wp2_with fail
      refine (ka _).mono ?_
      rintro e w' ⟨rfl, rfl⟩
      go_wp2_with fail
      refine (kb _).mono ?_
      rintro e w' ⟨rfl, rfl⟩
      clear ka kb pa pb
      go_wp2
      go_ret
      exact ⟨rfl, rfl⟩
  · have f1 : (kindV a == 6) = false := by rw [beq_eq_false_iff_ne]; exact ja
    by_cases jb : kindV b = 6
    · rw [jb] at kb
      rw [cmp_1n ja jb]
      clear ja jb
      generalize kindV a = k at *
      go_enter Try.func16, Try.ntmps16
      go_wp2_with fail
      refine (ka _).mono ?_
      rintro e w' ⟨rfl, rfl⟩
      go_wp2_with fail
      refine (kb _).mono ?_
      rintro e w' ⟨rfl, rfl⟩
      clear ka kb pa pb
      go_wp2
      go_ret
      exact ⟨rfl, rfl⟩
    · have f2 : (kindV b == 6) = false := by rw [beq_eq_false_iff_ne]; exact jb
      rw [cmp_11 ja jb]
      clear ja jb
      generalize kindV a = j at *
      generalize kindV b = k at *
      generalize placeV a = x at *
      generalize placeV b = y at *
      by_cases c1 : x < y
      · rw [if_pos c1]
        go_enter Try.func16, Try.ntmps16
        go_wp2_with fail
        refine (ka _).mono ?_
        rintro e w' ⟨rfl, rfl⟩
        go_wp2_with fail
        refine (kb _).mono ?_
        rintro e w' ⟨rfl, rfl⟩
        clear ka kb
        go_wp2_with fail
        refine (pa _).mono ?_
        rintro e w' ⟨rfl, rfl⟩
        go_wp2_with fail
        refine (pb _).mono ?_
        rintro e w' ⟨rfl, rfl⟩
        clear pa pb
        go_wp2
        go_ret
        exact ⟨rfl, rfl⟩
      · rw [if_neg c1]
        by_cases c2 : y < x
        · rw [if_pos c2]
          go_enter Try.func16, Try.ntmps16
          go_wp2_with fail
          refine (ka _).mono ?_
          rintro e w' ⟨rfl, rfl⟩
          go_wp2_with fail
          refine (kb _).mono ?_
          rintro e w' ⟨rfl, rfl⟩
          clear ka kb
          go_wp2_with fail
          refine (pa _).mono ?_
          rintro e w' ⟨rfl, rfl⟩
          go_wp2_with fail
          refine (pb _).mono ?_
          rintro e w' ⟨rfl, rfl⟩
          clear pa pb
          go_wp2
          go_ret
          exact ⟨rfl, rfl⟩
        · rw [if_neg c2]
          go_enter Try.func16, Try.ntmps16
          go_wp2_with fail
          refine (ka _).mono ?_
          rintro e w' ⟨rfl, rfl⟩
          go_wp2_with fail
          refine (kb _).mono ?_
          rintro e w' ⟨rfl, rfl⟩
          clear ka kb
          go_wp2_with fail
          refine (pa _).mono ?_
          rintro e w' ⟨rfl, rfl⟩
          go_wp2_with fail
          refine (pb _).mono ?_
          rintro e w' ⟨rfl, rfl⟩
          clear pa pb
          go_wp2
          go_ret
          exact ⟨rfl, rfl⟩

def sameV (a b : Nat) : Bool := cmpV a b == 0
theorem refSame_any (a b : Nat) (ha : a < 18446744073709551616) (hb : b < 18446744073709551616) (w : World) :
    Calls Try.prog 9 #[.float .f64 a, .float .f64 b] w fun e w' => e = .returned (.bool (sameV a b)) ∧ w' = w := by
  have hc := fun w => refCmp_any a b ha hb w
  clear ha hb
  unfold sameV
  generalize cmpV a b = c at *
  go_enter Try.func9, Try.ntmps9
  go_wp2_with fail
  refine (hc _).mono ?_
  rintro e w' ⟨rfl, rfl⟩
  clear hc
  go_wp2
  go_ret
  exact ⟨rfl, rfl⟩

/-- A float with its sign turned. -/
def ng (b : Nat) : Nat := wd (!sgn b) (rung b)
theorem xor_top (x n : Nat) (h : x < 2 ^ n) : x ^^^ 2 ^ n = 2 ^ n + x := by
  apply Nat.eq_of_testBit_eq
  intro i
  rw [Nat.testBit_xor, Nat.testBit_two_pow]
  rcases Nat.lt_trichotomy i n with c | c | c
  · have hne : ¬ n = i := by omega
    rw [Nat.testBit_two_pow_add_gt c]
    simp [hne]
  · subst c
    rw [Nat.testBit_two_pow_add_eq]
    simp
  · rw [Nat.testBit_lt_two_pow (Nat.lt_of_lt_of_le h (Nat.pow_le_pow_right (by omega) (by omega))), Nat.testBit_lt_two_pow (x := 2 ^ n + x) (i := i) (Nat.lt_of_lt_of_le (by rw [Nat.pow_succ]; omega : 2 ^ n + x < 2 ^ (n + 1)) (Nat.pow_le_pow_right (by omega) (by omega)))]
    have hne : ¬ n = i := by omega
    simp [hne]
theorem neg_d (b : Nat) (hb : b < 18446744073709551616) : Op.negFloat .f64 b = ng b := by
  have e : Op.negFloat .f64 b = b ^^^ 2 ^ 63 := rfl
  have h2 : (2 : Nat) ^ 63 = W63 := by decide
  have h := sgn_rung b hb
  have hr := rung_lt b
  rw [e]
  unfold ng wd
  cases hs : sgn b
  · rw [hs] at h
    have h' : b = rung b := by simpa using h
    rw [h', xor_top (rung b) 63 (by rw [h2]; exact hr), h2, ← h']
    simp
    exact h'
  · rw [hs] at h
    have h' : b = W63 + rung b := by simpa using h
    rw [h', ← h2, ← xor_top (rung b) 63 (by rw [h2]; exact hr), Nat.xor_assoc, Nat.xor_self, Nat.xor_zero]
    simp
    rw [xor_top (rung b) 63 (by rw [h2]; exact hr), h2, ← h']

def infP (b : Nat) : Bool := decide (rung b = INF) && !sgn b
def infM (b : Nat) : Bool := decide (rung b = INF) && sgn b
theorem over_max (b : Nat) (hb : b < 18446744073709551616) : (FloatKind.f64.format.order b 9218868437227405311 == some .gt) = infP b := by
  have e : sr 9218868437227405311 = 9218868437227405311 := by decide
  have e1 : isN 9218868437227405311 = false := by decide
  show (Ieee.double.order b 9218868437227405311 == some .gt) = infP b
  rw [gt_d b 9218868437227405311 hb (by decide), e, e1]
  have hI : INF = 9218868437227405312 := rfl
  unfold isN sr infP
  cases hs : sgn b
  · rw [Bool.eq_iff_iff]; simp; omega
  · rw [Bool.eq_iff_iff]; simp
theorem ng_lt (b : Nat) : ng b < 18446744073709551616 := wd_lt _ _ (rung_lt b)
theorem infP_ng (b : Nat) : infP (ng b) = infM b := by
  unfold infP infM ng
  rw [rung_wd _ _ (rung_lt b), sgn_wd _ _ (rung_lt b), Bool.not_not]
theorem isInfP_any (b : Nat) (hb : b < 18446744073709551616) (w : World) :
    Calls Try.prog 30 #[.float .f64 b, .int .i64 1] w fun e w' => e = .returned (.bool (infP b)) ∧ w' = w := by
  have h := over_max b hb
  clear hb
  generalize infP b = s at *
  go_enter Try.func30, Try.ntmps30
  go_wp2
  go_ret
  exact ⟨rfl, rfl⟩
theorem isInfM_any (b : Nat) (hb : b < 18446744073709551616) (w : World) :
    Calls Try.prog 30 #[.float .f64 b, .int .i64 (-1)] w fun e w' => e = .returned (.bool (infM b)) ∧ w' = w := by
  have h := over_max (ng b) (ng_lt b)
  rw [infP_ng] at h
  have hu : ∀ w, (Op.unary .neg (.float .f64 b)).run Try.prog w = .ok (.float .f64 (ng b)) w := fun w => by rw [← neg_d b hb]; rfl
  clear hb
  generalize infM b = s at *
  go_enter Try.func30, Try.ntmps30
  go_wp2
  go_ret
  exact ⟨rfl, rfl⟩

theorem below_zero (b : Nat) (hb : b < 18446744073709551616) : (FloatKind.f64.format.order b 0 == some .lt) = (!isN b && sgn b && decide (0 < rung b)) := by
  have e : sr 0 = 0 := by decide
  have e1 : isN 0 = false := by decide
  show (Ieee.double.order b 0 == some .lt) = _
  rw [lt_d b 0 hb (by decide), e, e1]
  unfold sr
  cases hs : sgn b
  · rw [Bool.eq_iff_iff]; simp
  · rw [Bool.eq_iff_iff]; simp
theorem above_zero (b : Nat) (hb : b < 18446744073709551616) : (FloatKind.f64.format.order b 0 == some .gt) = (!isN b && !sgn b && decide (0 < rung b)) := by
  have e : sr 0 = 0 := by decide
  have e1 : isN 0 = false := by decide
  show (Ieee.double.order b 0 == some .gt) = _
  rw [gt_d b 0 hb (by decide), e, e1]
  unfold sr
  cases hs : sgn b
  · rw [Bool.eq_iff_iff]; simp
  · rw [Bool.eq_iff_iff]; simp

theorem kind_cases (b : Nat) : (kindV b = 6 ∧ isN b = true ∧ INF < rung b) ∨ (kindV b = 0 ∧ isN b = false ∧ rung b = INF ∧ sgn b = true) ∨ (kindV b = 5 ∧ isN b = false ∧ rung b = INF ∧ sgn b = false) ∨ (kindV b = 2 ∧ isN b = false ∧ rung b = 0 ∧ sgn b = true) ∨
    (kindV b = 3 ∧ isN b = false ∧ rung b = 0 ∧ sgn b = false) ∨ (kindV b = 1 ∧ isN b = false ∧ 0 < rung b ∧ rung b < INF ∧ sgn b = true) ∨ (kindV b = 4 ∧ isN b = false ∧ 0 < rung b ∧ rung b < INF ∧ sgn b = false) := by
  have hI : 0 < INF := by decide
  rcases Nat.lt_or_ge INF (rung b) with c | c
  · exact Or.inl ⟨kind_nan c, by simp [isN, c], c⟩
  have hn : isN b = false := by simp [isN]; omega
  rcases Nat.lt_or_ge (rung b) INF with d | d
  · rcases Nat.eq_zero_or_pos (rung b) with z | z
    · have h := kind_zero z
      cases hs : sgn b <;> simp [hs] at h <;> simp [h, hn, z]
    · have h := kind_fin z d
      cases hs : sgn b <;> simp [hs] at h <;> simp [h, hn, z, d]
  · have e : rung b = INF := by omega
    have h := kind_inf e
    cases hs : sgn b <;> simp [hs] at h <;> simp [h, hn, e]

theorem kind_any (b : Nat) (hb : b < 18446744073709551616) (w : World) :
    Calls Try.prog 13 #[.float .f64 b] w fun e w' => e = .returned (.int .i64 (kindV b)) ∧ w' = w := by
  have h1 := fun w => isNaN_any b hb w
  have h2 := fun w => isInfM_any b hb w
  have h3 := fun w => isInfP_any b hb w
  have h4 := fun w => signbit_any b hb w
  have l1 := below_zero b hb
  have l2 := above_zero b hb
  have hI : INF ≠ 0 := by decide
  have e2 : infM b = (decide (rung b = INF) && sgn b) := rfl
  have e3 : infP b = (decide (rung b = INF) && !sgn b) := rfl
  clear hb
  rcases kind_cases b with ⟨k, n, r⟩ | ⟨k, n, r, s⟩ | ⟨k, n, r, s⟩ | ⟨k, n, r, s⟩ | ⟨k, n, r, s⟩ | ⟨k, n, r, r', s⟩ | ⟨k, n, r, r', s⟩
  · rw [n] at h1
    rw [k]
    clear h2 h3 h4 l1 l2 e2 e3 k n r hI
    go_enter Try.func13, Try.ntmps13
    go_wp2_with fail
    refine (h1 _).mono ?_
    rintro e w' ⟨rfl, rfl⟩
    go_wp2
    go_ret
    exact ⟨rfl, rfl⟩
  · rw [n] at h1 l1 l2
    have dz : decide (rung b = INF) = true := decide_eq_true r
    have m2 : infM b = true := by rw [e2, dz, s]; rfl
    have m3 : infP b = false := by rw [e3, dz, s]; rfl
    rw [m2] at h2
    rw [m3] at h3
    rw [s] at h4
    rw [k]
    clear e2 e3 k n r s hI dz m2 m3 l1 l2
    go_enter Try.func13, Try.ntmps13
    go_wp2_with fail
    refine (h1 _).mono ?_
    rintro e w' ⟨rfl, rfl⟩
    go_wp2_with fail
    refine (h2 _).mono ?_
    rintro e w' ⟨rfl, rfl⟩
    go_wp2
    go_ret
    exact ⟨rfl, rfl⟩
  · rw [n] at h1 l1 l2
    have dz : decide (rung b = INF) = true := decide_eq_true r
    have m2 : infM b = false := by rw [e2, dz, s]; rfl
    have m3 : infP b = true := by rw [e3, dz, s]; rfl
    rw [m2] at h2
    rw [m3] at h3
    rw [s] at h4
    rw [k]
    clear e2 e3 k n r s hI dz m2 m3 l1 l2
    go_enter Try.func13, Try.ntmps13
    go_wp2_with fail
    refine (h1 _).mono ?_
    rintro e w' ⟨rfl, rfl⟩
    go_wp2_with fail
    refine (h2 _).mono ?_
    rintro e w' ⟨rfl, rfl⟩
    go_wp2_with fail
    refine (h3 _).mono ?_
    rintro e w' ⟨rfl, rfl⟩
    go_wp2
    go_ret
    exact ⟨rfl, rfl⟩
  · rw [n] at h1 l1 l2
    have dz : decide (rung b = INF) = false := decide_eq_false (by rw [r]; exact Ne.symm hI)
    have m2 : infM b = false := by rw [e2, dz, s]; rfl
    have m3 : infP b = false := by rw [e3, dz, s]; rfl
    have dp : decide (0 < rung b) = false := decide_eq_false (by omega)
    have g1 : (FloatKind.f64.format.order b 0 == some .lt) = false := by rw [l1, dp, s]; rfl
    have g2 : (FloatKind.f64.format.order b 0 == some .gt) = false := by rw [l2, dp, s]; rfl
    rw [m2] at h2
    rw [m3] at h3
    rw [s] at h4
    rw [k]
    clear e2 e3 k n r s hI dz m2 m3 l1 l2 dp
    go_enter Try.func13, Try.ntmps13
    go_wp2_with fail
    refine (h1 _).mono ?_
    rintro e w' ⟨rfl, rfl⟩
    go_wp2_with fail
    refine (h2 _).mono ?_
    rintro e w' ⟨rfl, rfl⟩
    go_wp2_with fail
    refine (h3 _).mono ?_
    rintro e w' ⟨rfl, rfl⟩
    go_wp2_with fail
    refine (h4 _).mono ?_
    rintro e w' ⟨rfl, rfl⟩
    go_wp2
    go_ret
    exact ⟨rfl, rfl⟩
  · rw [n] at h1 l1 l2
    have dz : decide (rung b = INF) = false := decide_eq_false (by rw [r]; exact Ne.symm hI)
    have m2 : infM b = false := by rw [e2, dz, s]; rfl
    have m3 : infP b = false := by rw [e3, dz, s]; rfl
    have dp : decide (0 < rung b) = false := decide_eq_false (by omega)
    have g1 : (FloatKind.f64.format.order b 0 == some .lt) = false := by rw [l1, dp, s]; rfl
    have g2 : (FloatKind.f64.format.order b 0 == some .gt) = false := by rw [l2, dp, s]; rfl
    rw [m2] at h2
    rw [m3] at h3
    rw [s] at h4
    rw [k]
    clear e2 e3 k n r s hI dz m2 m3 l1 l2 dp
    go_enter Try.func13, Try.ntmps13
    go_wp2_with fail
    refine (h1 _).mono ?_
    rintro e w' ⟨rfl, rfl⟩
    go_wp2_with fail
    refine (h2 _).mono ?_
    rintro e w' ⟨rfl, rfl⟩
    go_wp2_with fail
    refine (h3 _).mono ?_
    rintro e w' ⟨rfl, rfl⟩
    go_wp2_with fail
    refine (h4 _).mono ?_
    rintro e w' ⟨rfl, rfl⟩
    go_wp2
    go_ret
    exact ⟨rfl, rfl⟩
  · rw [n] at h1 l1 l2
    have dz : decide (rung b = INF) = false := decide_eq_false (by omega)
    have m2 : infM b = false := by rw [e2, dz, s]; rfl
    have m3 : infP b = false := by rw [e3, dz, s]; rfl
    have dp : decide (0 < rung b) = true := decide_eq_true r
    have g1 : (FloatKind.f64.format.order b 0 == some .lt) = true := by rw [l1, dp, s]; rfl
    have g2 : (FloatKind.f64.format.order b 0 == some .gt) = false := by rw [l2, dp, s]; rfl
    rw [m2] at h2
    rw [m3] at h3
    rw [s] at h4
    rw [k]
    clear e2 e3 k n r s hI dz m2 m3 l1 l2 dp
    go_enter Try.func13, Try.ntmps13
    go_wp2_with fail
    refine (h1 _).mono ?_
    rintro e w' ⟨rfl, rfl⟩
    go_wp2_with fail
    refine (h2 _).mono ?_
    rintro e w' ⟨rfl, rfl⟩
    go_wp2_with fail
    refine (h3 _).mono ?_
    rintro e w' ⟨rfl, rfl⟩
    go_wp2
    go_ret
    exact ⟨rfl, rfl⟩
  · rw [n] at h1 l1 l2
    have dz : decide (rung b = INF) = false := decide_eq_false (by omega)
    have m2 : infM b = false := by rw [e2, dz, s]; rfl
    have m3 : infP b = false := by rw [e3, dz, s]; rfl
    have dp : decide (0 < rung b) = true := decide_eq_true r
    have g1 : (FloatKind.f64.format.order b 0 == some .lt) = false := by rw [l1, dp, s]; rfl
    have g2 : (FloatKind.f64.format.order b 0 == some .gt) = true := by rw [l2, dp, s]; rfl
    rw [m2] at h2
    rw [m3] at h3
    rw [s] at h4
    rw [k]
    clear e2 e3 k n r s hI dz m2 m3 l1 l2 dp
    go_enter Try.func13, Try.ntmps13
    go_wp2_with fail
    refine (h1 _).mono ?_
    rintro e w' ⟨rfl, rfl⟩
    go_wp2_with fail
    refine (h2 _).mono ?_
    rintro e w' ⟨rfl, rfl⟩
    go_wp2_with fail
    refine (h3 _).mono ?_
    rintro e w' ⟨rfl, rfl⟩
    go_wp2
    go_ret
    exact ⟨rfl, rfl⟩

def cmpI (x y : Int) : Int := if x < y then -1 else if y < x then 1 else 0
theorem compareInt_any (x y : Int) (w : World) :
    Calls Try.prog 33 #[.int .i64 x, .int .i64 y] w fun e w' => e = .returned (.int .i64 (cmpI x y)) ∧ w' = w := by
  have hn : ∀ x w, Calls Try.prog 40 #[.int .i64 x] w fun e w' => e = .returned (.bool false) ∧ w' = w := fun x w => by
    have e : (x != x) = false := by simp
    go_enter Try.func40, Try.ntmps40
    go_wp2
    go_ret
    exact ⟨by simp, rfl⟩
  unfold cmpI
  by_cases c1 : x < y
  · rw [if_pos c1]
    go_enter Try.func33, Try.ntmps33
    go_wp2_with (go_at_call 40; refine (hn _ _).mono ?_; rintro e w' ⟨rfl, rfl⟩)
    go_ret
    exact ⟨rfl, rfl⟩
  · rw [if_neg c1]
    by_cases c2 : y < x
    · rw [if_pos c2]
      go_enter Try.func33, Try.ntmps33
      go_wp2_with (go_at_call 40; refine (hn _ _).mono ?_; rintro e w' ⟨rfl, rfl⟩)
      go_ret
      exact ⟨rfl, rfl⟩
    · rw [if_neg c2]
      go_enter Try.func33, Try.ntmps33
      go_wp2_with (go_at_call 40; refine (hn _ _).mono ?_; rintro e w' ⟨rfl, rfl⟩)
      go_ret
      exact ⟨rfl, rfl⟩

theorem cisNaN_any (b : Nat) (hb : b < 18446744073709551616) (w : World) :
    Calls Try.prog 41 #[.float .f64 b] w fun e w' => e = .returned (.bool (isN b)) ∧ w' = w := by
  have h : (FloatKind.f64.format.order b b != some .eq) = isN b := ne_d b hb
  clear hb
  go_enter Try.func41, Try.ntmps41
  go_wp2
  go_ret
  exact ⟨rfl, rfl⟩

def fcmpV (a b : Nat) : Int := if isN a = true then (if isN b = true then 0 else -1) else if isN b = true then 1 else cmpI (sr a) (sr b)
theorem compareFloat_any (a b : Nat) (ha : a < 18446744073709551616) (hb : b < 18446744073709551616) (w : World) :
    Calls Try.prog 34 #[.float .f64 a, .float .f64 b] w fun e w' => e = .returned (.int .i64 (fcmpV a b)) ∧ w' = w := by
  have na := fun w => cisNaN_any a ha w
  have nb := fun w => cisNaN_any b hb w
  have l1 : (FloatKind.f64.format.order a b == some .lt) = _ := lt_d a b ha hb
  have l2 : (FloatKind.f64.format.order a b == some .gt) = _ := gt_d a b ha hb
  clear ha hb
  unfold fcmpV cmpI
  cases ia : isN a <;> cases ib : isN b <;> rw [ia] at na l1 l2 <;> rw [ib] at nb l1 l2
  · by_cases c1 : sr a < sr b
    · have g1 : (FloatKind.f64.format.order a b == some .lt) = true := by rw [l1, decide_eq_true c1]; rfl
      have hv : (if false = true then (if false = true then 0 else -1) else if false = true then 1 else if sr a < sr b then -1 else if sr b < sr a then 1 else 0 : Int) = -1 := by simp [c1]
      rw [hv]
      clear l1 l2 ia ib c1 hv
      go_enter Try.func34, Try.ntmps34
      go_wp2_with fail
      refine (na _).mono ?_
      rintro e w' ⟨rfl, rfl⟩
      go_wp2_with fail
      refine (nb _).mono ?_
      rintro e w' ⟨rfl, rfl⟩
      go_wp2
      go_ret
      exact ⟨rfl, rfl⟩
    · by_cases c2 : sr b < sr a
      · have g1 : (FloatKind.f64.format.order a b == some .lt) = false := by rw [l1, decide_eq_false c1]; rfl
        have g2 : (FloatKind.f64.format.order a b == some .gt) = true := by rw [l2, decide_eq_true c2]; rfl
        have hv : (if false = true then (if false = true then 0 else -1) else if false = true then 1 else if sr a < sr b then -1 else if sr b < sr a then 1 else 0 : Int) = 1 := by simp [c1, c2]
        rw [hv]
        clear l1 l2 ia ib c1 c2 hv
        go_enter Try.func34, Try.ntmps34
        go_wp2_with fail
        refine (na _).mono ?_
        rintro e w' ⟨rfl, rfl⟩
        go_wp2_with fail
        refine (nb _).mono ?_
        rintro e w' ⟨rfl, rfl⟩
        go_wp2
        go_ret
        exact ⟨rfl, rfl⟩
      · have g1 : (FloatKind.f64.format.order a b == some .lt) = false := by rw [l1, decide_eq_false c1]; rfl
        have g2 : (FloatKind.f64.format.order a b == some .gt) = false := by rw [l2, decide_eq_false c2]; rfl
        have hv : (if false = true then (if false = true then 0 else -1) else if false = true then 1 else if sr a < sr b then -1 else if sr b < sr a then 1 else 0 : Int) = 0 := by simp [c1, c2]
        rw [hv]
        clear l1 l2 ia ib c1 c2 hv
        go_enter Try.func34, Try.ntmps34
        go_wp2_with fail
        refine (na _).mono ?_
        rintro e w' ⟨rfl, rfl⟩
        go_wp2_with fail
        refine (nb _).mono ?_
        rintro e w' ⟨rfl, rfl⟩
        go_wp2
        go_ret
        exact ⟨rfl, rfl⟩
  · clear l1 l2 ia ib
    go_enter Try.func34, Try.ntmps34
    go_wp2_with fail
    refine (na _).mono ?_
    rintro e w' ⟨rfl, rfl⟩
    go_wp2_with fail
    refine (nb _).mono ?_
    rintro e w' ⟨rfl, rfl⟩
    go_wp2
    go_ret
    exact ⟨rfl, rfl⟩
  · clear l1 l2 ia ib
    go_enter Try.func34, Try.ntmps34
    go_wp2_with fail
    refine (na _).mono ?_
    rintro e w' ⟨rfl, rfl⟩
    go_wp2_with fail
    refine (nb _).mono ?_
    rintro e w' ⟨rfl, rfl⟩
    go_wp2
    go_ret
    exact ⟨rfl, rfl⟩
  · clear l1 l2 ia ib
    go_enter Try.func34, Try.ntmps34
    go_wp2_with fail
    refine (na _).mono ?_
    rintro e w' ⟨rfl, rfl⟩
    go_wp2_with fail
    refine (nb _).mono ?_
    rintro e w' ⟨rfl, rfl⟩
    go_wp2
    go_ret
    exact ⟨rfl, rfl⟩

theorem cmp_kind_lt {a b : Nat} (h : kindV a < kindV b) : cmpV a b = -1 := by
  have hI : 0 < INF := by decide
  unfold cmpV placeV
  rcases kind_cases a with ⟨k, n, r⟩ | ⟨k, n, r, s⟩ | ⟨k, n, r, s⟩ | ⟨k, n, r, s⟩ | ⟨k, n, r, s⟩ | ⟨k, n, r, r', s⟩ | ⟨k, n, r, r', s⟩ <;>
  rcases kind_cases b with ⟨k2, n2, q⟩ | ⟨k2, n2, q, s2⟩ | ⟨k2, n2, q, s2⟩ | ⟨k2, n2, q, s2⟩ | ⟨k2, n2, q, s2⟩ | ⟨k2, n2, q, q', s2⟩ | ⟨k2, n2, q, q', s2⟩ <;>
  rw [k, k2] at h <;> first | (exfalso; revert h; decide) | (simp [k, k2]; done) | (rw [k, k2, s, s2, if_neg (by decide), if_pos]; simp; omega)
theorem cmp_kind_gt {a b : Nat} (h : kindV b < kindV a) : cmpV a b = 1 := by
  have hI : 0 < INF := by decide
  unfold cmpV placeV
  rcases kind_cases a with ⟨k, n, r⟩ | ⟨k, n, r, s⟩ | ⟨k, n, r, s⟩ | ⟨k, n, r, s⟩ | ⟨k, n, r, s⟩ | ⟨k, n, r, r', s⟩ | ⟨k, n, r, r', s⟩ <;>
  rcases kind_cases b with ⟨k2, n2, q⟩ | ⟨k2, n2, q, s2⟩ | ⟨k2, n2, q, s2⟩ | ⟨k2, n2, q, s2⟩ | ⟨k2, n2, q, s2⟩ | ⟨k2, n2, q, q', s2⟩ | ⟨k2, n2, q, q', s2⟩ <;>
  rw [k, k2] at h <;> first | (exfalso; revert h; decide) | (simp [k, k2]; done) | (rw [k, k2, s, s2, if_neg (by decide), if_neg, if_pos] <;> simp <;> omega)
theorem cmp_kind_eq {a b : Nat} (h : kindV a = kindV b) : fcmpV a b = cmpV a b := by
  have hI : 0 < INF := by decide
  unfold cmpV placeV fcmpV sr cmpI
  rcases kind_cases a with ⟨k, n, r⟩ | ⟨k, n, r, s⟩ | ⟨k, n, r, s⟩ | ⟨k, n, r, s⟩ | ⟨k, n, r, s⟩ | ⟨k, n, r, r', s⟩ | ⟨k, n, r, r', s⟩ <;>
  rcases kind_cases b with ⟨k2, n2, q⟩ | ⟨k2, n2, q, s2⟩ | ⟨k2, n2, q, s2⟩ | ⟨k2, n2, q, s2⟩ | ⟨k2, n2, q, s2⟩ | ⟨k2, n2, q, q', s2⟩ | ⟨k2, n2, q, q', s2⟩ <;>
  rw [k, k2] at h <;> first | (exfalso; revert h; decide) | (simp [k, k2, n, n2]; done) | (simp [k, k2, n, n2, s, s2, r, q]; done) | (simp [k, k2, n, n2, s, s2]; (repeat split) <;> first | rfl | omega)

theorem cmp_any (a b : Nat) (ha : a < 18446744073709551616) (hb : b < 18446744073709551616) (w : World) :
    Calls Try.prog 15 #[.float .f64 a, .float .f64 b] w fun e w' => e = .returned (.int .i64 (cmpV a b)) ∧ w' = w := by
  have ka := fun w => kind_any a ha w
  have kb := fun w => kind_any b hb w
  have hf := fun w => compareFloat_any a b ha hb w
  clear ha hb
  have e0 : ((-1 : Int) != 0) = true := by decide
  have e1 : ((1 : Int) != 0) = true := by decide
  rcases Int.lt_trichotomy (kindV a) (kindV b) with c | c | c
  · have hi := fun w => compareInt_any (kindV a) (kindV b) w
    rw [cmp_kind_lt c]
    have : cmpI (kindV a) (kindV b) = -1 := by simp [cmpI, c]
    rw [this] at hi
    clear this c
    generalize kindV a = j at *
    generalize kindV b = k at *
    go_enter Try.func15, Try.ntmps15
    go_wp2_with fail
    refine (ka _).mono ?_
    rintro e w' ⟨rfl, rfl⟩
    go_wp2_with fail
    refine (kb _).mono ?_
    rintro e w' ⟨rfl, rfl⟩
    go_wp2_with fail
    refine (hi _).mono ?_
    rintro e w' ⟨rfl, rfl⟩
    go_wp2
    go_ret
    exact ⟨rfl, rfl⟩
  · have hi := fun w => compareInt_any (kindV a) (kindV b) w
    rw [cmp_kind_eq c] at hf
    have : cmpI (kindV a) (kindV b) = 0 := by simp [cmpI, c]
    rw [this] at hi
    clear this c
    generalize kindV a = j at *
    generalize kindV b = k at *
    generalize cmpV a b = v at *
    go_enter Try.func15, Try.ntmps15
    go_wp2_with fail
    refine (ka _).mono ?_
    rintro e w' ⟨rfl, rfl⟩
    go_wp2_with fail
    refine (kb _).mono ?_
    rintro e w' ⟨rfl, rfl⟩
    go_wp2_with fail
    refine (hi _).mono ?_
    rintro e w' ⟨rfl, rfl⟩
    go_wp2_with fail
    refine (hf _).mono ?_
    rintro e w' ⟨rfl, rfl⟩
    go_wp2
    go_ret
    exact ⟨rfl, rfl⟩
  · have hi := fun w => compareInt_any (kindV a) (kindV b) w
    rw [cmp_kind_gt c]
    have : cmpI (kindV a) (kindV b) = 1 := by simp [cmpI, c]; omega
    rw [this] at hi
    clear this c
    generalize kindV a = j at *
    generalize kindV b = k at *
    go_enter Try.func15, Try.ntmps15
    go_wp2_with fail
    refine (ka _).mono ?_
    rintro e w' ⟨rfl, rfl⟩
    go_wp2_with fail
    refine (kb _).mono ?_
    rintro e w' ⟨rfl, rfl⟩
    go_wp2_with fail
    refine (hi _).mono ?_
    rintro e w' ⟨rfl, rfl⟩
    go_wp2
    go_ret
    exact ⟨rfl, rfl⟩

end Go.Proofs.Ytcfmacpogmkadaa
