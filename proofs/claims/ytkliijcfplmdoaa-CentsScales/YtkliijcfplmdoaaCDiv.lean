/-
  What bits.Div64 answers where the quotient has at most 64 bits and the divisor at most 63, as a contract.
-/
import Derived.Test.YtkliijcfplmdoaaCDiv0
import Derived.Test.YtkliijcfplmdoaaCNorm
namespace Go.Proofs.Ytkliijcfplmdoaa
open Go.RowKit

set_option maxHeartbeats 1000000 in
theorem div_walk (hi lo y : Int) (s : Nat) (Y a b U L u1 u0 : Int) (w : World) (h0 : 1 ≤ hi) (h1 : hi < y) (_l0 : 0 ≤ lo) (_l1 : lo < 18446744073709551616) (_y1 : y ≤ 9223372036854775807)
    (s0 : 1 ≤ s) (s1 : s ≤ 63)
    (eY : y * 2 ^ s = Y) (ea : Y / 4294967296 = a) (eb : bits .and .u64 Y 4294967295 = b) (eU : bits .or .u64 (IntKind.u64.wrap (hi * 2 ^ s)) (lo / 2 ^ (64 - s)) = U)
    (eL : IntKind.u64.wrap (lo * 2 ^ s) = L) (e1 : L / 4294967296 = u1) (e0 : bits .and .u64 L 4294967295 = u0)
    (hY : Hid (a * 4294967296 + b = Y)) (Y0 : 9223372036854775808 ≤ Y) (Y1 : Y < 18446744073709551616) (a0 : 2147483648 ≤ a) (a1 : a < 4294967296) (b0 : 0 ≤ b) (b1 : b < 4294967296) (U0 : 0 ≤ U) (U1 : U < Y)
    (_L0 : 0 ≤ L) (_L1 : L < 18446744073709551616) (v0 : 0 ≤ u1) (v1 : u1 < 4294967296) (t0 : 0 ≤ u0) (t1 : u0 < 4294967296)
    (hz : ∀ w, Calls Try.prog 25 #[.int .u64 y] w fun e w' => e = .returned (.int .i64 s) ∧ w' = w) :
    Calls Try.prog 24 #[.int .u64 hi, .int .u64 lo, .int .u64 y] w fun e w' => (∃ r, e = .returned (.tuple #[.int .u64 (dig U Y u1 * 4294967296 + dig (rest U Y u1) Y u0), .int .u64 r])) ∧ w' = w := by
  have hd : (y == 0) = false := by simp; omega
  have hh : (hi == 0) = false := by simp; omega
  have hle : ¬ y ≤ hi := by omega
  have hda : (a == 0) = false := by simp; omega
  obtain ⟨f1, f2, f3, f4, f5, f6, f7⟩ := try_first U Y a b u1 hY.out a0 b0 b1 U0 U1 v1
  have hqa : Hid (U / a * a + (U - U / a * a) = U) := by show _ = _; omega
  obtain ⟨qa, eqa⟩ : ∃ qa, U / a = qa := ⟨_, rfl⟩
  rw [eqa] at f1 f2 f3 f4 f5 f6 f7 hqa
  obtain ⟨ra, era⟩ : ∃ ra, U - qa * a = ra := ⟨_, rfl⟩
  rw [era] at f6 f7 hqa
  obtain ⟨d0, d1⟩ := dig_bd U Y u1 U0 U1 v0 v1
  obtain ⟨D, eD⟩ : ∃ D, Hid (dig U Y u1 = D) := ⟨_, rfl⟩
  rw [eD.out] at f1 d0 d1
  obtain ⟨V0, V1⟩ := rest_bd U Y u1 (by omega)
  have eV : IntKind.u64.wrap (IntKind.u64.wrap (IntKind.u64.wrap (U * 4294967296) + u1) - IntKind.u64.wrap (D * Y)) = rest U Y u1 := by
    have h := rest_eq U Y u1
    rw [eD.out] at h
    simp only [IntKind.wrap_u64]
    omega
  obtain ⟨V, eW⟩ : ∃ V, Hid (rest U Y u1 = V) := ⟨_, rfl⟩
  rw [eW.out] at V0 V1 eV
  obtain ⟨g1, g2, g3, g4, g5, g6, g7⟩ := try_first V Y a b u0 hY.out a0 b0 b1 V0 V1 t1
  have hqb : Hid (V / a * a + (V - V / a * a) = V) := by show _ = _; omega
  obtain ⟨qb, eqb⟩ : ∃ qb, V / a = qb := ⟨_, rfl⟩
  rw [eqb] at g1 g2 g3 g4 g5 g6 g7 hqb
  obtain ⟨rb, erb⟩ : ∃ rb, V - qb * a = rb := ⟨_, rfl⟩
  rw [erb] at g6 g7 hqb
  obtain ⟨k0, k1⟩ := dig_bd V Y u0 V0 V1 t0 t1
  obtain ⟨E, eE⟩ : ∃ E, Hid (dig V Y u0 = E) := ⟨_, rfl⟩
  rw [eE.out] at g1 k0 k1
  go_enter Try.func24, Try.ntmps24
  go_wp2_with (go_at_call 25; refine (hz _).mono ?_; rintro e w' ⟨rfl, rfl⟩)
  go_loop [15, 16] (fun x z => ∃ q r : Int, x = .int .u64 q ∧ z = .int .u64 r ∧ Hid (q * a + r = U) ∧ D ≤ q ∧ q ≤ 4294967297 ∧ 0 ≤ r ∧ r < 4294967296) (fun x _ => (intOf x).toNat)
  case atStart => exact ⟨qa, ra, congrArg _ eqa, rfl, hqa, by omega, by omega, by omega, by omega⟩
  case round =>
    obtain ⟨q, r, rfl, rfl, hq, r0, r1, r2, r3⟩ := hrel
    have hn : Hid ((q - 1) * a + (r + a) = U) := by
      show _ = _
      rw [Int.sub_mul, ← hq.out]; omega
    by_cases hB : 4294967296 ≤ q
    · by_cases hb : 4294967296 ≤ r + a
      · have hx := try_broke U Y a b u1 (q - 1) (r + a) hY.out hn.out (by omega) b0 b1 (by omega) hb (by omega)
        rw [eD.out] at hx
        obtain rfl : q = D + 1 := by omega
        clear hx hn hq
        go_wp2
        go_loop [18, 16] (fun x z => ∃ q r : Int, x = .int .u64 q ∧ z = .int .u64 r ∧ Hid (q * a + r = V) ∧ E ≤ q ∧ q ≤ 4294967297 ∧ 0 ≤ r ∧ r < 4294967296) (fun x _ => (intOf x).toNat)
        case atStart => exact ⟨qb, rb, rfl, rfl, hqb, by omega, by omega, by omega, by omega⟩
        case round =>
          obtain ⟨q, r, rfl, rfl, hq, r0, r1, r2, r3⟩ := hrel
          have hn : Hid ((q - 1) * a + (r + a) = V) := by
            show _ = _
            rw [Int.sub_mul, ← hq.out]; omega
          by_cases hB : 4294967296 ≤ q
          · by_cases hb : 4294967296 ≤ r + a
            · have hx := try_broke V Y a b u0 (q - 1) (r + a) hY.out hn.out (by omega) b0 b1 (by omega) hb (by omega)
              rw [eE.out] at hx
              obtain rfl : q = E + 1 := by omega
              clear hx hn hq
              go_wp2
              go_ret2
              rw [eD.out, eW.out, eE.out]
              exact ⟨⟨_, rfl⟩, rfl⟩
            · go_wp2
              go_round
              case rel => exact ⟨q - 1, r + a, rfl, rfl, hn, by omega, by omega, by omega, by omega⟩
              case measure => simp [intOf]; omega
          · have p0 : 0 ≤ q * b := Int.mul_nonneg (by omega) b0
            have p1 : q * b ≤ 4294967295 * 4294967295 := Int.mul_le_mul (by omega) (by omega) b0 (by omega)
            by_cases ht : 4294967296 * r + u0 < q * b
            · have ho := try_over V Y a b u0 q r hY.out hq.out (by omega) ht
              rw [eE.out] at ho
              by_cases hb : 4294967296 ≤ r + a
              · have hx := try_broke V Y a b u0 (q - 1) (r + a) hY.out hn.out (by omega) b0 b1 (by omega) hb (by omega)
                rw [eE.out] at hx
                obtain rfl : q = E + 1 := by omega
                clear hx ho hn hq
                go_wp2
                go_ret2
                rw [eD.out, eW.out, eE.out]
                exact ⟨⟨_, rfl⟩, rfl⟩
              · go_wp2
                go_round
                case rel => exact ⟨q - 1, r + a, rfl, rfl, hn, by omega, by omega, by omega, by omega⟩
                case measure => simp [intOf]; omega
            · have hx := try_fits V Y a b u0 q r hY.out hq.out (by omega) ht
              rw [eE.out] at hx
              obtain rfl : q = E := by omega
              clear hx hn hq
              go_wp2
              go_ret2
              rw [eD.out, eW.out, eE.out]
              exact ⟨⟨_, rfl⟩, rfl⟩
      · go_wp2
        go_round
        case rel => exact ⟨q - 1, r + a, rfl, rfl, hn, by omega, by omega, by omega, by omega⟩
        case measure => simp [intOf]; omega
    · have p0 : 0 ≤ q * b := Int.mul_nonneg (by omega) b0
      have p1 : q * b ≤ 4294967295 * 4294967295 := Int.mul_le_mul (by omega) (by omega) b0 (by omega)
      by_cases ht : 4294967296 * r + u1 < q * b
      · have ho := try_over U Y a b u1 q r hY.out hq.out (by omega) ht
        rw [eD.out] at ho
        by_cases hb : 4294967296 ≤ r + a
        · have hx := try_broke U Y a b u1 (q - 1) (r + a) hY.out hn.out (by omega) b0 b1 (by omega) hb (by omega)
          rw [eD.out] at hx
          obtain rfl : q = D + 1 := by omega
          clear hx ho hn hq
          go_wp2
          go_loop [18, 16] (fun x z => ∃ q r : Int, x = .int .u64 q ∧ z = .int .u64 r ∧ Hid (q * a + r = V) ∧ E ≤ q ∧ q ≤ 4294967297 ∧ 0 ≤ r ∧ r < 4294967296) (fun x _ => (intOf x).toNat)
          case atStart => exact ⟨qb, rb, rfl, rfl, hqb, by omega, by omega, by omega, by omega⟩
          case round =>
            obtain ⟨q, r, rfl, rfl, hq, r0, r1, r2, r3⟩ := hrel
            have hn : Hid ((q - 1) * a + (r + a) = V) := by
              show _ = _
              rw [Int.sub_mul, ← hq.out]; omega
            by_cases hB : 4294967296 ≤ q
            · by_cases hb : 4294967296 ≤ r + a
              · have hx := try_broke V Y a b u0 (q - 1) (r + a) hY.out hn.out (by omega) b0 b1 (by omega) hb (by omega)
                rw [eE.out] at hx
                obtain rfl : q = E + 1 := by omega
                clear hx hn hq
                go_wp2
                go_ret2
                rw [eD.out, eW.out, eE.out]
                exact ⟨⟨_, rfl⟩, rfl⟩
              · go_wp2
                go_round
                case rel => exact ⟨q - 1, r + a, rfl, rfl, hn, by omega, by omega, by omega, by omega⟩
                case measure => simp [intOf]; omega
            · have p0 : 0 ≤ q * b := Int.mul_nonneg (by omega) b0
              have p1 : q * b ≤ 4294967295 * 4294967295 := Int.mul_le_mul (by omega) (by omega) b0 (by omega)
              by_cases ht : 4294967296 * r + u0 < q * b
              · have ho := try_over V Y a b u0 q r hY.out hq.out (by omega) ht
                rw [eE.out] at ho
                by_cases hb : 4294967296 ≤ r + a
                · have hx := try_broke V Y a b u0 (q - 1) (r + a) hY.out hn.out (by omega) b0 b1 (by omega) hb (by omega)
                  rw [eE.out] at hx
                  obtain rfl : q = E + 1 := by omega
                  clear hx ho hn hq
                  go_wp2
                  go_ret2
                  rw [eD.out, eW.out, eE.out]
                  exact ⟨⟨_, rfl⟩, rfl⟩
                · go_wp2
                  go_round
                  case rel => exact ⟨q - 1, r + a, rfl, rfl, hn, by omega, by omega, by omega, by omega⟩
                  case measure => simp [intOf]; omega
              · have hx := try_fits V Y a b u0 q r hY.out hq.out (by omega) ht
                rw [eE.out] at hx
                obtain rfl : q = E := by omega
                clear hx hn hq
                go_wp2
                go_ret2
                rw [eD.out, eW.out, eE.out]
                exact ⟨⟨_, rfl⟩, rfl⟩
        · go_wp2
          go_round
          case rel => exact ⟨q - 1, r + a, rfl, rfl, hn, by omega, by omega, by omega, by omega⟩
          case measure => simp [intOf]; omega
      · have hx := try_fits U Y a b u1 q r hY.out hq.out (by omega) ht
        rw [eD.out] at hx
        obtain rfl : q = D := by omega
        clear hx hn hq
        go_wp2
        go_loop [18, 16] (fun x z => ∃ q r : Int, x = .int .u64 q ∧ z = .int .u64 r ∧ Hid (q * a + r = V) ∧ E ≤ q ∧ q ≤ 4294967297 ∧ 0 ≤ r ∧ r < 4294967296) (fun x _ => (intOf x).toNat)
        case atStart => exact ⟨qb, rb, rfl, rfl, hqb, by omega, by omega, by omega, by omega⟩
        case round =>
          obtain ⟨q, r, rfl, rfl, hq, r0, r1, r2, r3⟩ := hrel
          have hn : Hid ((q - 1) * a + (r + a) = V) := by
            show _ = _
            rw [Int.sub_mul, ← hq.out]; omega
          by_cases hB : 4294967296 ≤ q
          · by_cases hb : 4294967296 ≤ r + a
            · have hx := try_broke V Y a b u0 (q - 1) (r + a) hY.out hn.out (by omega) b0 b1 (by omega) hb (by omega)
              rw [eE.out] at hx
              obtain rfl : q = E + 1 := by omega
              clear hx hn hq
              go_wp2
              go_ret2
              rw [eD.out, eW.out, eE.out]
              exact ⟨⟨_, rfl⟩, rfl⟩
            · go_wp2
              go_round
              case rel => exact ⟨q - 1, r + a, rfl, rfl, hn, by omega, by omega, by omega, by omega⟩
              case measure => simp [intOf]; omega
          · have p0 : 0 ≤ q * b := Int.mul_nonneg (by omega) b0
            have p1 : q * b ≤ 4294967295 * 4294967295 := Int.mul_le_mul (by omega) (by omega) b0 (by omega)
            by_cases ht : 4294967296 * r + u0 < q * b
            · have ho := try_over V Y a b u0 q r hY.out hq.out (by omega) ht
              rw [eE.out] at ho
              by_cases hb : 4294967296 ≤ r + a
              · have hx := try_broke V Y a b u0 (q - 1) (r + a) hY.out hn.out (by omega) b0 b1 (by omega) hb (by omega)
                rw [eE.out] at hx
                obtain rfl : q = E + 1 := by omega
                clear hx ho hn hq
                go_wp2
                go_ret2
                rw [eD.out, eW.out, eE.out]
                exact ⟨⟨_, rfl⟩, rfl⟩
              · go_wp2
                go_round
                case rel => exact ⟨q - 1, r + a, rfl, rfl, hn, by omega, by omega, by omega, by omega⟩
                case measure => simp [intOf]; omega
            · have hx := try_fits V Y a b u0 q r hY.out hq.out (by omega) ht
              rw [eE.out] at hx
              obtain rfl : q = E := by omega
              clear hx hn hq
              go_wp2
              go_ret2
              rw [eD.out, eW.out, eE.out]
              exact ⟨⟨_, rfl⟩, rfl⟩

/-- The quotient of a number of 128 bits, where it has at most 64 itself. -/
theorem div_any (hi lo y : Int) (w : World) (h0 : 0 ≤ hi) (h1 : hi < y) (l0 : 0 ≤ lo) (l1 : lo < 18446744073709551616) (y1 : y ≤ 9223372036854775807) :
    Calls Try.prog 24 #[.int .u64 hi, .int .u64 lo, .int .u64 y] w fun e w' => (∃ r, e = .returned (.tuple #[.int .u64 ((hi * 18446744073709551616 + lo) / y), .int .u64 r])) ∧ ∃ k, w' = w.drewN k := by
  by_cases hz : hi = 0
  · subst hz
    refine (div_small lo y w l0 l1 (by omega) y1).mono ?_
    rintro e w' ⟨rfl, k, rfl⟩
    exact ⟨⟨lo % y, by rw [Int.zero_mul, Int.zero_add]⟩, k, rfl⟩
  · obtain ⟨s, hs, s0, s1, Y0, Y1⟩ := shift_len y (by omega) y1
    have hl : ∀ w, Calls Try.prog 25 #[.int .u64 y] w fun e w' => e = .returned (.int .i64 s) ∧ w' = w := by
      intro w
      have h := Try.bits_LeadingZeros64 y w (by omega) (by omega)
      rw [hs] at h
      exact h
    obtain ⟨n1, n2, n3, n4, n5, n6⟩ := norm hi lo y s s1 h0 h1 l0 l1 Y1
    have m1 := mask32 (y * 2 ^ s) (by omega) Y1
    have m2 := mask32 (IntKind.u64.wrap (lo * 2 ^ s)) n5 n6
    refine (div_walk hi lo y s _ _ _ _ _ _ _ w (by omega) h1 l0 l1 y1 s0 s1 rfl rfl m1 n1 rfl rfl m2 (by show _ = _; omega) Y0 Y1 (by omega) (by omega) (by omega) (by omega) n2 n3 n5 n6 (by omega) (by omega) (by omega) (by omega) hl).mono ?_
    rintro e w' ⟨⟨r, rfl⟩, rfl⟩
    have hq := two_digits ((hi * 18446744073709551616 + lo) * 2 ^ s) (hi * 2 ^ s + lo / 2 ^ (64 - s)) (y * 2 ^ s) (IntKind.u64.wrap (lo * 2 ^ s) / 4294967296) (IntKind.u64.wrap (lo * 2 ^ s) % 4294967296) (by omega) (by rw [← n4]; omega)
    rw [hq, Int.mul_ediv_mul_of_pos_left _ _ (Int.pow_pos (by omega))]
    exact ⟨⟨r, rfl⟩, 0, rfl⟩

end Go.Proofs.Ytkliijcfplmdoaa
