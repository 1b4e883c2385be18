/-
  What ratio.Clamp, ratio.Points and the reference's answer, as contracts: for every float.
-/
import Derived.Test.YtcfmacpogmkadaaFOf
namespace Go.Proofs.Ytcfmacpogmkadaa
open Go.RowKit

def ONE : Nat := 4607182418800017408
def MILL : Nat := 4696837146684686336
theorem over_one (b : Nat) (hb : b < 18446744073709551616) : (FloatKind.f64.format.order b 4607182418800017408 == some .gt) = (!isN b && !sgn b && decide (ONE < rung b)) := by
  have e : sr 4607182418800017408 = 4607182418800017408 := by decide
  have e1 : isN 4607182418800017408 = false := by decide
  show (Ieee.double.order b 4607182418800017408 == some .gt) = _
  rw [gt_d b _ hb (by decide), e, e1]
  unfold sr ONE
  cases hs : sgn b
  · rw [Bool.eq_iff_iff]; simp; omega
  · rw [Bool.eq_iff_iff]; simp
theorem over_mill (b : Nat) (hb : b < 18446744073709551616) : (FloatKind.f64.format.order b 4696837146684686336 == some .gt) = (!isN b && !sgn b && decide (MILL < rung b)) := by
  have e : sr 4696837146684686336 = 4696837146684686336 := by decide
  have e1 : isN 4696837146684686336 = false := by decide
  show (Ieee.double.order b 4696837146684686336 == some .gt) = _
  rw [gt_d b _ hb (by decide), e, e1]
  unfold sr MILL
  cases hs : sgn b
  · rw [Bool.eq_iff_iff]; simp; omega
  · rw [Bool.eq_iff_iff]; simp

/-- What Clamp answers. -/
def clV (b : Nat) : Nat := if isN b = true then b else if sgn b = true ∨ rung b = 0 then 0 else if ONE < rung b then 4607182418800017408 else b
theorem clV_lt (b : Nat) (hb : b < 18446744073709551616) : clV b < 18446744073709551616 := by
  unfold clV; split; omega; split; omega; split <;> omega

theorem clamp_any (b : Nat) (hb : b < 18446744073709551616) (w : World) :
    Calls Try.prog 24 #[.float .f64 b] w fun e w' => e = .returned (.float .f64 (clV b)) ∧ w' = w := by
  have h1 := fun w => isNaN_any b hb w
  have l1 := over_one b hb
  have l2 := above_zero b hb
  clear hb
  unfold clV
  cases hn : isN b
  · rw [hn] at h1 l1 l2
    by_cases c : sgn b = true ∨ rung b = 0
    · have g1 : (FloatKind.f64.format.order b 4607182418800017408 == some .gt) = false := by
        rw [l1]
        rcases c with c | c
        · rw [c]; rfl
        · rw [c]; cases sgn b <;> rfl
      have g2 : (FloatKind.f64.format.order b 0 == some .gt) = false := by
        rw [l2]
        rcases c with c | c
        · rw [c]; rfl
        · rw [c]; cases sgn b <;> rfl
      rw [if_neg (by simp), if_pos c]
      clear l1 l2 c hn
      go_enter Try.func24, Try.ntmps24
      go_wp2_with fail
      refine (h1 _).mono ?_
      rintro e w' ⟨rfl, rfl⟩
      go_wp2
      go_ret
      exact ⟨rfl, rfl⟩
    · have hs : sgn b = false := by cases h : sgn b; rfl; exact absurd (Or.inl h) c
      have hz : 0 < rung b := by rcases Nat.eq_zero_or_pos (rung b) with h | h; exact absurd (Or.inr h) c; exact h
      rw [if_neg (by simp), if_neg c]
      by_cases d : ONE < rung b
      · have g1 : (FloatKind.f64.format.order b 4607182418800017408 == some .gt) = true := by rw [l1, hs, decide_eq_true d]; rfl
        rw [if_pos d]
        clear l1 l2 c hn hs hz d
        go_enter Try.func24, Try.ntmps24
        go_wp2_with fail
        refine (h1 _).mono ?_
        rintro e w' ⟨rfl, rfl⟩
        go_wp2
        go_ret
        exact ⟨rfl, rfl⟩
      · have g1 : (FloatKind.f64.format.order b 4607182418800017408 == some .gt) = false := by rw [l1, hs, decide_eq_false d]; rfl
        have g2 : (FloatKind.f64.format.order b 0 == some .gt) = true := by rw [l2, hs, decide_eq_true hz]; rfl
        rw [if_neg d]
        clear l1 l2 c hn hs hz d
        go_enter Try.func24, Try.ntmps24
        go_wp2_with fail
        refine (h1 _).mono ?_
        rintro e w' ⟨rfl, rfl⟩
        go_wp2
        go_ret
        exact ⟨rfl, rfl⟩
  · rw [hn] at h1
    rw [if_pos rfl]
    clear l1 l2 hn
    go_enter Try.func24, Try.ntmps24
    go_wp2_with fail
    refine (h1 _).mono ?_
    rintro e w' ⟨rfl, rfl⟩
    go_wp2
    go_ret
    exact ⟨rfl, rfl⟩

theorem refClamp_any (b : Nat) (hb : b < 18446744073709551616) (w : World) :
    Calls Try.prog 25 #[.float .f64 b] w fun e w' => e = .returned (.float .f64 (clV b)) ∧ w' = w := by
  have h1 := fun w => refKind_any b hb w
  have l1 := over_one b hb
  clear hb
  have hO : ONE < INF := by decide
  unfold clV
  rcases kind_cases b with ⟨k, n, r⟩ | ⟨k, n, r, s⟩ | ⟨k, n, r, s⟩ | ⟨k, n, r, s⟩ | ⟨k, n, r, s⟩ | ⟨k, n, r, r', s⟩ | ⟨k, n, r, r', s⟩
  · rw [k] at h1
    rw [if_pos n]
    clear l1 k n r hO
    go_enter Try.func25, Try.ntmps25
    go_wp2_with fail
    refine (h1 _).mono ?_
    rintro e w' ⟨rfl, rfl⟩
    go_wp2
    go_ret
    exact ⟨rfl, rfl⟩
  · rw [k] at h1
    rw [if_neg (by rw [n]; simp), if_pos (Or.inl s)]
    clear l1 k n r s hO
    go_enter Try.func25, Try.ntmps25
    go_wp2_with fail
    refine (h1 _).mono ?_
    rintro e w' ⟨rfl, rfl⟩
    go_wp2
    go_ret
    exact ⟨rfl, rfl⟩
  · rw [k] at h1
    have d : ONE < rung b := by omega
    rw [if_neg (by rw [n]; simp), if_neg (by rw [s]; simp; omega), if_pos d]
    have g1 : (FloatKind.f64.format.order b 4607182418800017408 == some .gt) = true := by rw [l1, n, s, decide_eq_true d]; rfl
    clear l1 k n r s hO d
    go_enter Try.func25, Try.ntmps25
    go_wp2_with fail
    refine (h1 _).mono ?_
    rintro e w' ⟨rfl, rfl⟩
    go_wp2
    go_ret
    exact ⟨rfl, rfl⟩
  · rw [k] at h1
    rw [if_neg (by rw [n]; simp), if_pos (Or.inl s)]
    clear l1 k n r s hO
    go_enter Try.func25, Try.ntmps25
    go_wp2_with fail
    refine (h1 _).mono ?_
    rintro e w' ⟨rfl, rfl⟩
    go_wp2
    go_ret
    exact ⟨rfl, rfl⟩
  · rw [k] at h1
    rw [if_neg (by rw [n]; simp), if_pos (Or.inr r)]
    clear l1 k n r s hO
    go_enter Try.func25, Try.ntmps25
    go_wp2_with fail
    refine (h1 _).mono ?_
    rintro e w' ⟨rfl, rfl⟩
    go_wp2
    go_ret
    exact ⟨rfl, rfl⟩
  · rw [k] at h1
    rw [if_neg (by rw [n]; simp), if_pos (Or.inl s)]
    clear l1 k n r s hO r'
    go_enter Try.func25, Try.ntmps25
    go_wp2_with fail
    refine (h1 _).mono ?_
    rintro e w' ⟨rfl, rfl⟩
    go_wp2
    go_ret
    exact ⟨rfl, rfl⟩
  · rw [k] at h1
    rw [if_neg (by rw [n]; simp), if_neg (by rw [s]; simp; omega)]
    by_cases d : ONE < rung b
    · have g1 : (FloatKind.f64.format.order b 4607182418800017408 == some .gt) = true := by rw [l1, n, s, decide_eq_true d]; rfl
      rw [if_pos d]
      clear l1 k n r s hO d r'
      go_enter Try.func25, Try.ntmps25
      go_wp2_with fail
      refine (h1 _).mono ?_
      rintro e w' ⟨rfl, rfl⟩
      go_wp2
      go_ret
      exact ⟨rfl, rfl⟩
    · have g1 : (FloatKind.f64.format.order b 4607182418800017408 == some .gt) = false := by rw [l1, n, s, decide_eq_false d]; rfl
      rw [if_neg d]
      clear l1 k n r s hO d r'
      go_enter Try.func25, Try.ntmps25
      go_wp2_with fail
      refine (h1 _).mono ?_
      rintro e w' ⟨rfl, rfl⟩
      go_wp2
      go_ret
      exact ⟨rfl, rfl⟩

/-- What Points answers. -/
def ptOut (b : Nat) : Prop := kindV b < 2 ∨ 4 < kindV b ∨ MILL < rung b
def ptOK (b : Nat) : Bool := decide (2 ≤ kindV b) && decide (kindV b ≤ 4) && decide (rung b ≤ MILL)
def ptV (b : Nat) : Int := if ptOK b = true then ((((Ieee.double.mul b 4666723172467343360).bind fun x => Ieee.double.add x 4602678819172646912).bind fun y => floatToIntVal .f64 y .i64).getD 0) else 0
def ptE (b : Nat) : Int := if ptOK b = true then 0 else 3

theorem pt_in (b : Nat) (hb : b < 18446744073709551616) (h : rung b ≤ MILL) : ∃ x y n, Ieee.double.mul b 4666723172467343360 = some x ∧ Ieee.double.add x 4602678819172646912 = some y ∧ floatToIntVal .f64 y .i64 = some n ∧ (((Ieee.double.mul b 4666723172467343360).bind fun x => Ieee.double.add x 4602678819172646912).bind fun y => floatToIntVal .f64 y .i64).getD 0 = n := by
  have hM : MILL < 1043 * B52 := by decide
  obtain ⟨x, y, n, h1, h2, h3⟩ := points_d b hb (by omega)
  refine ⟨x, y, n, h1, h2, h3, ?_⟩
  rw [h1, Option.bind_some, h2, Option.bind_some, h3]
  rfl
theorem run_mul (x y r : Nat) (h : Ieee.double.mul x y = some r) (w : World) : (binOp .mul 23 (.float .f64 x) (.float .f64 y)).run Try.prog w = .ok (.float .f64 r) w :=
  run_float_arith w .mul 23 .f64 x y r h
theorem run_add (x y r : Nat) (h : Ieee.double.add x y = some r) (w : World) : (binOp .add 23 (.float .f64 x) (.float .f64 y)).run Try.prog w = .ok (.float .f64 r) w :=
  run_float_arith w .add 23 .f64 x y r h
theorem run_toInt (y : Nat) (n : Int) (h : floatToIntVal .f64 y .i64 = some n) (w : World) : (convert 23 2 (.float .f64 y)).run Try.prog w = .ok (.int .i64 n) w :=
  run_convert_float_int w 23 2 .f64 .i64 y n (by rw [Try.underlying23]; rfl) Try.underlying2 h
theorem run_same (y : Nat) (w : World) : (convert 23 23 (.float .f64 y)).run Try.prog w = .ok (.float .f64 y) w :=
  run_convert_float_float w 23 23 .f64 .f64 y y (by rw [Try.underlying23]; rfl) Try.underlying23 (by simp [floatToFloatBits])

theorem points_any (b : Nat) (hb : b < 18446744073709551616) (w : World) :
    Calls Try.prog 22 #[.float .f64 b] w fun e w' => e = .returned (.tuple #[.int .i64 (ptV b), .int .i64 (ptE b)]) ∧ w' = w := by
  have h1 := fun w => kind_any b hb w
  have l1 := over_mill b hb
  unfold ptV ptE
  rcases kind_cases b with ⟨k, n, r⟩ | ⟨k, n, r, s⟩ | ⟨k, n, r, s⟩ | ⟨k, n, r, s⟩ | ⟨k, n, r, s⟩ | ⟨k, n, r, r', s⟩ | ⟨k, n, r, r', s⟩
  · rw [k] at h1
    have hk : ptOK b = false := by simp [ptOK, k]
    rw [hk, if_neg (by simp), if_neg (by simp)]
    clear l1 hk hb k
    go_enter Try.func22, Try.ntmps22
    go_wp2_with fail
    refine (h1 _).mono ?_
    rintro e w' ⟨rfl, rfl⟩
    go_wp2
    go_ret2
    exact ⟨rfl, rfl⟩
  · rw [k] at h1
    have hk : ptOK b = false := by simp [ptOK, k]
    rw [hk, if_neg (by simp), if_neg (by simp)]
    clear l1 hk hb k
    go_enter Try.func22, Try.ntmps22
    go_wp2_with fail
    refine (h1 _).mono ?_
    rintro e w' ⟨rfl, rfl⟩
    go_wp2
    go_ret2
    exact ⟨rfl, rfl⟩
  · rw [k] at h1
    have hk : ptOK b = false := by simp [ptOK, k]
    rw [hk, if_neg (by simp), if_neg (by simp)]
    clear l1 hk hb k
    go_enter Try.func22, Try.ntmps22
    go_wp2_with fail
    refine (h1 _).mono ?_
    rintro e w' ⟨rfl, rfl⟩
    go_wp2
    go_ret2
    exact ⟨rfl, rfl⟩
  · rw [k] at h1
    have d : rung b ≤ MILL := by rw [r]; exact Nat.zero_le _
    have g1 : (FloatKind.f64.format.order b 4696837146684686336 == some .gt) = false := by rw [l1, decide_eq_false (by omega)]; simp
    have hk : ptOK b = true := by simp [ptOK, k, d]
    rw [hk, if_pos rfl, if_pos rfl]
    obtain ⟨x, y, m, e1, e2, e3, e4⟩ := pt_in b hb d
    rw [e4]
    have q1 := run_mul _ _ _ e1
    have q2 := run_add _ _ _ e2
    have q3 := run_toInt _ _ e3
    have q4 := run_same x
    have q5 := run_same y
    clear e1 e2 e3 e4 l1 hk hb k n r s d
    go_enter Try.func22, Try.ntmps22
    go_wp2_with fail
    refine (h1 _).mono ?_
    rintro e w' ⟨rfl, rfl⟩
    go_wp2
    go_ret2
    exact ⟨rfl, rfl⟩
  · rw [k] at h1
    have d : rung b ≤ MILL := by rw [r]; exact Nat.zero_le _
    have g1 : (FloatKind.f64.format.order b 4696837146684686336 == some .gt) = false := by rw [l1, decide_eq_false (by omega)]; simp
    have hk : ptOK b = true := by simp [ptOK, k, d]
    rw [hk, if_pos rfl, if_pos rfl]
    obtain ⟨x, y, m, e1, e2, e3, e4⟩ := pt_in b hb d
    rw [e4]
    have q1 := run_mul _ _ _ e1
    have q2 := run_add _ _ _ e2
    have q3 := run_toInt _ _ e3
    have q4 := run_same x
    have q5 := run_same y
    clear e1 e2 e3 e4 l1 hk hb k n r s d
    go_enter Try.func22, Try.ntmps22
    go_wp2_with fail
    refine (h1 _).mono ?_
    rintro e w' ⟨rfl, rfl⟩
    go_wp2
    go_ret2
    exact ⟨rfl, rfl⟩
  · rw [k] at h1
    have hk : ptOK b = false := by simp [ptOK, k]
    rw [hk, if_neg (by simp), if_neg (by simp)]
    clear l1 hk hb k
    go_enter Try.func22, Try.ntmps22
    go_wp2_with fail
    refine (h1 _).mono ?_
    rintro e w' ⟨rfl, rfl⟩
    go_wp2
    go_ret2
    exact ⟨rfl, rfl⟩
  · rw [k] at h1
    by_cases d : MILL < rung b
    · have hk : ptOK b = false := by simp [ptOK, k]; omega
      have g1 : (FloatKind.f64.format.order b 4696837146684686336 == some .gt) = true := by rw [l1, n, s, decide_eq_true d]; rfl
      rw [hk, if_neg (by simp), if_neg (by simp)]
      clear l1 hk hb k n r r' s d
      go_enter Try.func22, Try.ntmps22
      go_wp2_with fail
      refine (h1 _).mono ?_
      rintro e w' ⟨rfl, rfl⟩
      go_wp2
      go_ret2
      exact ⟨rfl, rfl⟩
    have d : rung b ≤ MILL := by omega
    have g1 : (FloatKind.f64.format.order b 4696837146684686336 == some .gt) = false := by rw [l1, decide_eq_false (by omega)]; simp
    have hk : ptOK b = true := by simp [ptOK, k, d]
    rw [hk, if_pos rfl, if_pos rfl]
    obtain ⟨x, y, m, e1, e2, e3, e4⟩ := pt_in b hb d
    rw [e4]
    have q1 := run_mul _ _ _ e1
    have q2 := run_add _ _ _ e2
    have q3 := run_toInt _ _ e3
    have q4 := run_same x
    have q5 := run_same y
    clear e1 e2 e3 e4 l1 hk hb k n r s d
    go_enter Try.func22, Try.ntmps22
    go_wp2_with fail
    refine (h1 _).mono ?_
    rintro e w' ⟨rfl, rfl⟩
    go_wp2
    go_ret2
    exact ⟨rfl, rfl⟩
theorem refPoints_any (b : Nat) (hb : b < 18446744073709551616) (w : World) :
    Calls Try.prog 23 #[.float .f64 b] w fun e w' => e = .returned (.tuple #[.int .i64 (ptV b), .int .i64 (ptE b)]) ∧ w' = w := by
  have h1 := fun w => refKind_any b hb w
  have l1 := over_mill b hb
  unfold ptV ptE
  rcases kind_cases b with ⟨k, n, r⟩ | ⟨k, n, r, s⟩ | ⟨k, n, r, s⟩ | ⟨k, n, r, s⟩ | ⟨k, n, r, s⟩ | ⟨k, n, r, r', s⟩ | ⟨k, n, r, r', s⟩
  · rw [k] at h1
    have hk : ptOK b = false := by simp [ptOK, k]
    rw [hk, if_neg (by simp), if_neg (by simp)]
    clear l1 hk hb k
    go_enter Try.func23, Try.ntmps23
    go_wp2_with fail
    refine (h1 _).mono ?_
    rintro e w' ⟨rfl, rfl⟩
    go_wp2
    go_ret2
    exact ⟨rfl, rfl⟩
  · rw [k] at h1
    have hk : ptOK b = false := by simp [ptOK, k]
    rw [hk, if_neg (by simp), if_neg (by simp)]
    clear l1 hk hb k
    go_enter Try.func23, Try.ntmps23
    go_wp2_with fail
    refine (h1 _).mono ?_
    rintro e w' ⟨rfl, rfl⟩
    go_wp2
    go_ret2
    exact ⟨rfl, rfl⟩
  · rw [k] at h1
    have hk : ptOK b = false := by simp [ptOK, k]
    rw [hk, if_neg (by simp), if_neg (by simp)]
    clear l1 hk hb k
    go_enter Try.func23, Try.ntmps23
    go_wp2_with fail
    refine (h1 _).mono ?_
    rintro e w' ⟨rfl, rfl⟩
    go_wp2
    go_ret2
    exact ⟨rfl, rfl⟩
  · rw [k] at h1
    have d : rung b ≤ MILL := by rw [r]; exact Nat.zero_le _
    have g1 : (FloatKind.f64.format.order b 4696837146684686336 == some .gt) = false := by rw [l1, decide_eq_false (by omega)]; simp
    have hk : ptOK b = true := by simp [ptOK, k, d]
    rw [hk, if_pos rfl, if_pos rfl]
    obtain ⟨x, y, m, e1, e2, e3, e4⟩ := pt_in b hb d
    rw [e4]
    have q1 := run_mul _ _ _ e1
    have q2 := run_add _ _ _ e2
    have q3 := run_toInt _ _ e3
    have q4 := run_same x
    have q5 := run_same y
    clear e1 e2 e3 e4 l1 hk hb k n r s d
    go_enter Try.func23, Try.ntmps23
    go_wp2_with fail
    refine (h1 _).mono ?_
    rintro e w' ⟨rfl, rfl⟩
    go_wp2
    go_ret2
    exact ⟨rfl, rfl⟩
  · rw [k] at h1
    have d : rung b ≤ MILL := by rw [r]; exact Nat.zero_le _
    have g1 : (FloatKind.f64.format.order b 4696837146684686336 == some .gt) = false := by rw [l1, decide_eq_false (by omega)]; simp
    have hk : ptOK b = true := by simp [ptOK, k, d]
    rw [hk, if_pos rfl, if_pos rfl]
    obtain ⟨x, y, m, e1, e2, e3, e4⟩ := pt_in b hb d
    rw [e4]
    have q1 := run_mul _ _ _ e1
    have q2 := run_add _ _ _ e2
    have q3 := run_toInt _ _ e3
    have q4 := run_same x
    have q5 := run_same y
    clear e1 e2 e3 e4 l1 hk hb k n r s d
    go_enter Try.func23, Try.ntmps23
    go_wp2_with fail
    refine (h1 _).mono ?_
    rintro e w' ⟨rfl, rfl⟩
    go_wp2
    go_ret2
    exact ⟨rfl, rfl⟩
  · rw [k] at h1
    have hk : ptOK b = false := by simp [ptOK, k]
    rw [hk, if_neg (by simp), if_neg (by simp)]
    clear l1 hk hb k
    go_enter Try.func23, Try.ntmps23
    go_wp2_with fail
    refine (h1 _).mono ?_
    rintro e w' ⟨rfl, rfl⟩
    go_wp2
    go_ret2
    exact ⟨rfl, rfl⟩
  · rw [k] at h1
    by_cases d : MILL < rung b
    · have hk : ptOK b = false := by simp [ptOK, k]; omega
      have g1 : (FloatKind.f64.format.order b 4696837146684686336 == some .gt) = true := by rw [l1, n, s, decide_eq_true d]; rfl
      rw [hk, if_neg (by simp), if_neg (by simp)]
      clear l1 hk hb k n r r' s d
      go_enter Try.func23, Try.ntmps23
      go_wp2_with fail
      refine (h1 _).mono ?_
      rintro e w' ⟨rfl, rfl⟩
      go_wp2
      go_ret2
      exact ⟨rfl, rfl⟩
    have d : rung b ≤ MILL := by omega
    have g1 : (FloatKind.f64.format.order b 4696837146684686336 == some .gt) = false := by rw [l1, decide_eq_false (by omega)]; simp
    have hk : ptOK b = true := by simp [ptOK, k, d]
    rw [hk, if_pos rfl, if_pos rfl]
    obtain ⟨x, y, m, e1, e2, e3, e4⟩ := pt_in b hb d
    rw [e4]
    have q1 := run_mul _ _ _ e1
    have q2 := run_add _ _ _ e2
    have q3 := run_toInt _ _ e3
    have q4 := run_same x
    have q5 := run_same y
    clear e1 e2 e3 e4 l1 hk hb k n r s d
    go_enter Try.func23, Try.ntmps23
    go_wp2_with fail
    refine (h1 _).mono ?_
    rintro e w' ⟨rfl, rfl⟩
    go_wp2
    go_ret2
    exact ⟨rfl, rfl⟩
end Go.Proofs.Ytcfmacpogmkadaa
