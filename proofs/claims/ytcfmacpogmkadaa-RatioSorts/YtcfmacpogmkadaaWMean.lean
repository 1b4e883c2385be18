/-
  What ratio.Mean, the reference's Mean and SameAll answer, as contracts: for every row of floats.
-/
import Derived.Test.YtcfmacpogmkadaaWMore
namespace Go.Proofs.Ytcfmacpogmkadaa
open Go.Shelf Go.RowKit Go.Lib Go.Sort

def finV (b : Nat) : Bool := decide (1 ≤ kindV b) && decide (kindV b ≤ 4)
theorem finite_any (b : Nat) (hb : b < 18446744073709551616) (w : World) :
    Calls Try.prog 37 #[.float .f64 b] w fun e w' => e = .returned (.bool (finV b)) ∧ w' = w := by
  have h := fun w => kind_any b hb w
  clear hb
  unfold finV
  generalize kindV b = k at *
  by_cases c1 : 1 ≤ k
  · by_cases c2 : k ≤ 4
    · rw [decide_eq_true c1, decide_eq_true c2]
      go_enter Try.func37, Try.ntmps37
      go_wp2_with fail
      refine (h _).mono ?_
      rintro e w1 ⟨rfl, rfl⟩
      go_wp2
      go_ret
      exact ⟨rfl, rfl⟩
    · have c3 : decide (k ≤ 4) = false := decide_eq_false c2
      rw [decide_eq_true c1, c3]
      go_enter Try.func37, Try.ntmps37
      go_wp2_with fail
      refine (h _).mono ?_
      rintro e w1 ⟨rfl, rfl⟩
      go_wp2
      go_ret
      exact ⟨rfl, rfl⟩
  · rw [decide_eq_false c1, Bool.false_and]
    go_enter Try.func37, Try.ntmps37
    go_wp2_with fail
    refine (h _).mono ?_
    rintro e w1 ⟨rfl, rfl⟩
    go_wp2
    go_ret
    exact ⟨rfl, rfl⟩

/-- The sum, and how many, of the first k. -/
def ms (f : Nat → UInt64) : Nat → Nat
  | 0 => 0
  | k + 1 => if finV (f k).toNat = true then (Ieee.double.add (ms f k) (f k).toNat).getD 0 else ms f k
def mc (f : Nat → UInt64) : Nat → Nat
  | 0 => 0
  | k + 1 => if finV (f k).toNat = true then mc f k + 1 else mc f k
theorem fin_rung (b : Nat) (h : finV b = true) : rung b < INF := by
  unfold finV at h
  have hI : 0 < INF := by decide
  rcases kind_cases b with ⟨k, n, r⟩ | ⟨k, n, r, s⟩ | ⟨k, n, r, s⟩ | ⟨k, n, r, s⟩ | ⟨k, n, r, s⟩ | ⟨k, n, r, r', s⟩ | ⟨k, n, r, r', s⟩ <;> rw [k] at h <;> first | (exfalso; revert h; decide) | omega
theorem ms_ok (f : Nat → UInt64) (k : Nat) : ms f k < 18446744073709551616 ∧ rung (ms f k) ≤ INF := by
  induction k with
  | zero => exact ⟨(show (0 : Nat) < 18446744073709551616 by decide), (show rung 0 ≤ INF by decide)⟩
  | succ k ih =>
    unfold ms
    cases hf : finV (f k).toNat
    · rw [if_neg (by simp)]; exact ih
    · rw [if_pos rfl]
      obtain ⟨r, e, h1, h2⟩ := add_some (ms f k) (f k).toNat ih.1 (UInt64.toNat_lt _) ih.2 (fin_rung _ hf)
      rw [e]; exact ⟨h1, h2⟩
theorem mc_le (f : Nat → UInt64) (k : Nat) : mc f k ≤ k := by
  induction k with
  | zero => exact Nat.le_refl _
  | succ k ih => unfold mc; split <;> omega
theorem ms_step (f : Nat → UInt64) (k : Nat) (h : finV (f k).toNat = true) : Ieee.double.add (ms f k) (f k).toNat = some (ms f (k + 1)) := by
  have ih := ms_ok f k
  obtain ⟨r, e, h1, h2⟩ := add_some (ms f k) (f k).toNat ih.1 (UInt64.toNat_lt _) ih.2 (fin_rung _ h)
  rw [e, ms, if_pos h, e]; rfl
theorem div_mean (x : Nat) (c : Nat) (hx : x < 18446744073709551616) (hr : rung x ≤ INF) (hc : c ≠ 0) (hc' : c < 17592186044416) : Ieee.double.div x (ofI c) = some (divW x (ofI c)) ∧ divW x (ofI c) < 18446744073709551616 := by
  have hy := fin_ofI (c : Int) (by omega) (by omega)
  have hn := rung_ofI_ne (c : Int) (by omega) (by omega) (by omega)
  unfold divW
  rcases Nat.lt_or_ge (rung x) INF with d | d
  · rw [div_fin x (ofI c) hx (ofI_lt _) d hy hn]
    exact ⟨rfl, wd_lt _ _ (Nat.lt_of_le_of_lt (nr_le _ _) INF_lt)⟩
  · rw [div_inf x (ofI c) hx (ofI_lt _) (by omega) hy]
    exact ⟨rfl, wd_lt _ _ INF_lt⟩
theorem run_addf (x y r : Nat) (h : Ieee.double.add x y = some r) (w : World) : (binOp .add 23 (.float .f64 x) (.float .f64 y)).run Try.prog w = .ok (.float .f64 r) w := run_add x y r h w

set_option maxHeartbeats 1000000 in
theorem mean_any (a : Option Addr) (n cap : Nat) (f : Nat → UInt64) (w : World) (hm : n < 17592186044416) (hr : Row a n f w) :
    Calls Try.prog 20 #[.slice a n cap] w fun e w' => (∃ r, e = .returned (.float .f64 r) ∧ r < 18446744073709551616 ∧ (mc f n = 0 → INF < rung r) ∧ (mc f n ≠ 0 → r = divW (ms f n) (ofI (mc f n)))) ∧ ∃ q, w' = w.drewN q := by
  have HR : Aside (Row a n f w) := hr
  clear hr
  go_enter Try.func20, Try.ntmps20
  go_wp2
  go_loopg [3, 4, 8] n (fun k v3 v4 v8 wr => ∃ i : Nat, v3 = .float .f64 (ms f i) ∧ v4 = .int .i64 (mc f i) ∧ v8 = .int .i64 i ∧ i ≤ n ∧ n - i ≤ k ∧ wr = w)
  case atStart => exact ⟨0, rfl, rfl, rfl, Nat.zero_le _, by omega, rfl⟩
  case round =>
    obtain ⟨i, rfl, rfl, rfl, hin, hk, rfl⟩ := hrel
    have hci := mc_le f i
    by_cases hlt : i < n
    · have hltz : (i : Int) < (n : Int) := by omega
      obtain ⟨b, off, rfl, hlb, hcell⟩ := HR.out i hlt
      unfold encF at hcell
      have hfin := fun w => finite_any (f i).toNat (UInt64.toNat_lt _) w
      cases hv : finV (f i).toNat with
      | true =>
        have e1 := run_addf _ _ _ (ms_step f i hv)
        have e2 : mc f (i + 1) = mc f i + 1 := by rw [mc, if_pos hv]
        have E2 : Aside (mc f (i + 1) = mc f i + 1) := e2
        rw [hv] at hfin
        clear e2 hv
        generalize (f i).toNat = x at *
        go_wp2_with fail
        refine (hfin _).mono ?_
        rintro e w1 ⟨rfl, rfl⟩
        go_wp2
        go_roundg (n - (i + 1))
        case measure => omega
        case rel => exact ⟨i + 1, rfl, by rw [E2.out]; first | go_num | (congr 1; omega), by first | go_num | (congr 1; omega), by omega, by omega, rfl⟩
      | false =>
        have e1 : Aside (ms f (i + 1) = ms f i) := (show ms f (i + 1) = ms f i by rw [ms, if_neg (by simp [hv])])
        have e2 : Aside (mc f (i + 1) = mc f i) := (show mc f (i + 1) = mc f i by rw [mc, if_neg (by simp [hv])])
        rw [hv] at hfin
        clear hv
        generalize (f i).toNat = x at *
        go_wp2_with fail
        refine (hfin _).mono ?_
        rintro e w1 ⟨rfl, rfl⟩
        go_wp2
        go_roundg (n - (i + 1))
        case measure => omega
        case rel => exact ⟨i + 1, by rw [e1.out], by rw [e2.out], by first | go_num | (congr 1; omega), by omega, by omega, rfl⟩
    · have hltz : ¬ (i : Int) < (n : Int) := by omega
      have hin' : i = n := by omega
      subst hin'
      have hms := ms_ok f i
      have efl := floatOfInt_d (mc f i : Int)
      by_cases hz : mc f i = 0
      · obtain ⟨r, r1, r2, hq⟩ := run_quo_none (ms f i) (ofI (mc f i)) (div_none _ _ hms.1 (ofI_lt _) (by
          have : ∀ k, mc f k = 0 → ms f k = 0 := fun k => by
            induction k with
            | zero => intro _; rfl
            | succ k ih =>
              intro h
              unfold mc at h
              unfold ms
              cases hf : finV (f k).toNat
              · rw [hf, if_neg (by simp)] at h; rw [if_neg (by simp)]; exact ih h
              · rw [hf, if_pos rfl] at h; omega
          rw [this i hz]; decide) (by rw [hz]; exact rung_ofI_zero)) wr
        have HP : Aside (r < 18446744073709551616 ∧ (mc f i = 0 → INF < rung r) ∧ (mc f i ≠ 0 → r = divW (ms f i) (ofI (mc f i)))) := ⟨r1, fun _ => r2, fun h => absurd hz h⟩
        clear r1 r2 hz hms
        go_wp2
        go_ret
        exact ⟨⟨r, rfl, HP.out⟩, 1, rfl⟩
      · obtain ⟨d1, d2⟩ := div_mean (ms f i) (mc f i) hms.1 hms.2 hz (by omega)
        have hq := run_quo _ _ _ d1
        have HP : Aside (divW (ms f i) (ofI (mc f i)) < 18446744073709551616 ∧ (mc f i = 0 → INF < rung (divW (ms f i) (ofI (mc f i)))) ∧ (mc f i ≠ 0 → divW (ms f i) (ofI (mc f i)) = divW (ms f i) (ofI (mc f i)))) := ⟨d2, fun h => absurd h hz, fun _ => rfl⟩
        clear d1 d2 hz hms
        go_wp2
        go_ret
        exact ⟨⟨_, rfl, HP.out.1, HP.out.2.1, fun _ => rfl⟩, 0, rfl⟩

def rMean (f : Nat → UInt64) (n : Nat) : Nat := if mc f n = 0 then 9221120237041090561 else divW (ms f n) (ofI (mc f n))
set_option maxHeartbeats 1000000 in
theorem refMean_any (a : Option Addr) (n cap : Nat) (f : Nat → UInt64) (w : World) (hm : n < 17592186044416) (hr : Row a n f w) :
    Calls Try.prog 21 #[.slice a n cap] w fun e w' => e = .returned (.float .f64 (rMean f n)) ∧ w' = w := by
  have HR : Aside (Row a n f w) := hr
  clear hr
  go_enter Try.func21, Try.ntmps21
  go_wp2
  go_loopg [3, 4, 5] n (fun k v3 v4 v5 wr => ∃ i : Nat, v3 = .float .f64 (ms f i) ∧ v4 = .int .i64 (mc f i) ∧ v5 = .int .i64 i ∧ i ≤ n ∧ n - i ≤ k ∧ wr = w)
  case atStart => exact ⟨0, rfl, rfl, rfl, Nat.zero_le _, by omega, rfl⟩
  case round =>
    obtain ⟨i, rfl, rfl, rfl, hin, hk, rfl⟩ := hrel
    have hci := mc_le f i
    by_cases hlt : i < n
    · have hltz : (i : Int) < (n : Int) := by omega
      obtain ⟨b, off, rfl, hlb, hcell⟩ := HR.out i hlt
      unfold encF at hcell
      have hkind := fun w => refKind_any (f i).toNat (UInt64.toNat_lt _) w
      have kb : 0 ≤ kindV (f i).toNat := by rcases kind_cases (f i).toNat with ⟨k, _⟩ | ⟨k, _⟩ | ⟨k, _⟩ | ⟨k, _⟩ | ⟨k, _⟩ | ⟨k, _⟩ | ⟨k, _⟩ <;> rw [k] <;> decide
      by_cases hv : kindV (f i).toNat = 0 ∨ 4 < kindV (f i).toNat
      · have hv' : finV (f i).toNat = false := by unfold finV; rw [Bool.and_eq_false_iff, decide_eq_false_iff_not, decide_eq_false_iff_not]; omega
        have e1 : Aside (ms f (i + 1) = ms f i) := (show ms f (i + 1) = ms f i by rw [ms, if_neg (by simp [hv'])])
        have e2 : Aside (mc f (i + 1) = mc f i) := (show mc f (i + 1) = mc f i by rw [mc, if_neg (by simp [hv'])])
        clear hv'
        by_cases hz : kindV (f i).toNat = 0
        · rw [hz] at hkind
          clear hv hz kb
          generalize (f i).toNat = x at *
          go_wp2_with fail
          refine (hkind _).mono ?_
          rintro e w1 ⟨rfl, rfl⟩
          go_wp2
          go_roundg (n - (i + 1))
          case measure => omega
          case rel => exact ⟨i + 1, by rw [e1.out], by rw [e2.out], by first | go_num | (congr 1; omega), by omega, by omega, rfl⟩
        · have q1 : (kindV (f i).toNat == 0) = false := by rw [beq_eq_false_iff_ne]; exact hz
          have q2 : 4 < kindV (f i).toNat := by omega
          clear hv hz kb
          generalize kindV (f i).toNat = kk at *
          generalize (f i).toNat = x at *
          go_wp2_with fail
          refine (hkind _).mono ?_
          rintro e w1 ⟨rfl, rfl⟩
          go_wp2
          go_roundg (n - (i + 1))
          case measure => omega
          case rel => exact ⟨i + 1, by rw [e1.out], by rw [e2.out], by first | go_num | (congr 1; omega), by omega, by omega, rfl⟩
      · have hv' : finV (f i).toNat = true := by unfold finV; rw [Bool.and_eq_true, decide_eq_true_eq, decide_eq_true_eq]; omega
        have e1 := run_addf _ _ _ (ms_step f i hv')
        have E2 : Aside (mc f (i + 1) = mc f i + 1) := (show mc f (i + 1) = mc f i + 1 by rw [mc, if_pos hv'])
        have q1 : (kindV (f i).toNat == 0) = false := by rw [beq_eq_false_iff_ne]; omega
        have q2 : ¬ 4 < kindV (f i).toNat := by omega
        clear hv hv' kb
        generalize kindV (f i).toNat = kk at *
        generalize (f i).toNat = x at *
        go_wp2_with fail
        refine (hkind _).mono ?_
        rintro e w1 ⟨rfl, rfl⟩
        go_wp2
        go_roundg (n - (i + 1))
        case measure => omega
        case rel => exact ⟨i + 1, rfl, by rw [E2.out]; first | go_num | (congr 1; omega), by first | go_num | (congr 1; omega), by omega, by omega, rfl⟩
    · have hltz : ¬ (i : Int) < (n : Int) := by omega
      have hin' : i = n := by omega
      subst hin'
      have hms := ms_ok f i
      have efl := floatOfInt_d (mc f i : Int)
      by_cases hz : mc f i = 0
      · have hv : Aside (rMean f i = 9221120237041090561) := (show rMean f i = 9221120237041090561 by unfold rMean; rw [if_pos hz])
        have q1 : ((mc f i : Int) == 0) = true := by rw [beq_iff_eq]; omega
        clear hz hms
        generalize mc f i = c at *
        go_wp2_with fail
        refine (nan_any _).mono ?_
        rintro e w1 ⟨rfl, rfl⟩
        go_wp2
        go_ret
        exact ⟨by rw [hv.out]; rfl, rfl⟩
      · obtain ⟨d1, d2⟩ := div_mean (ms f i) (mc f i) hms.1 hms.2 hz (by omega)
        have hq := run_quo _ _ _ d1
        have hv : Aside (rMean f i = divW (ms f i) (ofI (mc f i))) := (show rMean f i = divW (ms f i) (ofI (mc f i)) by unfold rMean; rw [if_neg hz])
        have q1 : ((mc f i : Int) == 0) = false := by rw [beq_eq_false_iff_ne]; omega
        clear d1 d2 hz hms
        go_wp2
        go_ret
        exact ⟨by rw [hv.out]; rfl, rfl⟩

theorem rMean_lt (f : Nat → UInt64) (n : Nat) (hm : n < 17592186044416) : rMean f n < 18446744073709551616 := by
  have hms := ms_ok f n
  have := mc_le f n
  unfold rMean
  split
  · omega
  · exact (div_mean _ _ hms.1 hms.2 (by assumption) (by omega)).2
theorem same_mean (f : Nat → UInt64) (n r : Nat) (h1 : mc f n = 0 → INF < rung r) (h2 : mc f n ≠ 0 → r = divW (ms f n) (ofI (mc f n))) : sameV r (rMean f n) = true := by
  unfold rMean
  by_cases hz : mc f n = 0
  · rw [if_pos hz]; exact same_nan _ _ (h1 hz) (by decide)
  · rw [if_neg hz, h2 hz]; exact same_self _

set_option maxHeartbeats 1000000 in
theorem sameAll_any (a b : Option Addr) (n c1 c2 : Nat) (f g : Nat → UInt64) (w : World) (hm : n < 17592186044416) (hf : Row a n f w) (hg : Row b n g w) (hs : ∀ i, i < n → sameV (f i).toNat (g i).toNat = true) :
    Calls Try.prog 18 #[.slice a n c1, .slice b n c2] w fun e w' => e = .returned (.bool true) ∧ ∃ q, w' = w.drewN q := by
  have HF : Aside (Row a n f w) := hf
  have HG : Aside (Row b n g w) := hg
  have HS : Aside (∀ i, i < n → sameV (f i).toNat (g i).toNat = true) := hs
  clear hf hg hs
  have t1 : ((n : Int) != (n : Int)) = false := by simp
  go_enter Try.func18, Try.ntmps18
  go_wp2
  go_loopg [5] n (fun k v5 wr => ∃ i q : Nat, v5 = .int .i64 i ∧ i ≤ n ∧ n - i ≤ k ∧ Aside (wr = w.drewN q))
  case atStart => exact ⟨0, 0, rfl, Nat.zero_le _, by omega, rfl⟩
  case round =>
    obtain ⟨i, q, rfl, hin, hk, HW⟩ := hrel
    by_cases hlt : i < n
    · have hltz : (i : Int) < (n : Int) := by omega
      obtain ⟨b1, o1, rfl, l1, d1⟩ := HF.out i hlt
      obtain ⟨b2, o2, rfl, l2, d2⟩ := HG.out i hlt
      unfold encF at d1 d2
      have hsm := fun w => refSame_any (f i).toNat (g i).toNat (UInt64.toNat_lt _) (UInt64.toNat_lt _) w
      rw [HS.out i hlt] at hsm
      have d1' : wr.cell? ⟨b1, o1 + i, none⟩ = some (.float .f64 (f i).toNat) := by rw [HW.out]; exact d1
      have d2' : wr.cell? ⟨b2, o2 + i, none⟩ = some (.float .f64 (g i).toNat) := by rw [HW.out]; exact d2
      clear d1 d2
      generalize (f i).toNat = x at *
      generalize (g i).toNat = y at *
      go_wp2_with fail
      go_quiet (first | (go_at_call 9; refine Calls.quiet_of_same (hsm _)))
      have HW2 : Aside (wr.drewN nq = w.drewN (q + nq)) := (show wr.drewN nq = w.drewN (q + nq) by rw [HW.out, World.drewN_drewN])
      clear d1' d2'
      generalize wr.drewN nq = w2 at HW2 ⊢
      go_wp2
      go_roundg (n - (i + 1))
      case measure => omega
      case rel => exact ⟨i + 1, q + nq, by first | go_num | (congr 1; omega), by omega, by omega, HW2⟩
    · have hltz : ¬ (i : Int) < (n : Int) := by omega
      go_wp2
      go_ret
      exact ⟨rfl, q, HW.out⟩
end Go.Proofs.Ytcfmacpogmkadaa
