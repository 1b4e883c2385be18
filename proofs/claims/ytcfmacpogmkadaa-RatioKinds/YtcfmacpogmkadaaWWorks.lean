/-
  What the law's own example answers, as a contract: true.
-/
import Derived.Test.YtcfmacpogmkadaaFPts
import Derived.Test.YtcfmacpogmkadaaSSortO
namespace Go.Proofs.Ytcfmacpogmkadaa
open Go.Shelf Go.RowKit Go.Lib Go.Sort

def f4 (i : Nat) : UInt64 := if i = 0 then 9221120237041090561 else if i = 1 then 4607182418800017408 else if i = 2 then 9223372036854775808 else 0
theorem f4_key (i : Nat) (hi : i < 4) : (keyV (f4 i).toNat = W63 ∧ kindV (f4 i).toNat = 6) ∨ (keyV (f4 i).toNat = 4607182418800017408) ∨ (keyV (f4 i).toNat = -1 ∧ kindV (f4 i).toNat = 2) ∨ keyV (f4 i).toNat = 0 := by
  have : i = 0 ∨ i = 1 ∨ i = 2 ∨ i = 3 := by omega
  rcases this with rfl | rfl | rfl | rfl <;> decide
theorem perm_symm {α : Type} [Inhabited α] {a b : Nat} {d d' : Array α} (h : PermIn a b d d') : PermIn a b d' d := ⟨h.1.symm, fun i hi => (h.2.1 i hi).symm, h.2.2.symm⟩
theorem sorted_four (d : Array UInt64) (hp : PermIn 0 4 (arr 4 f4) d) (hs : SortedIn (ltOf cfF) 0 4 d) : kindV (d[0]!).toNat = 2 ∧ kindV (d[3]!).toNat = 6 := by
  have hsz : d.size = 4 := by rw [hp.1, size_arr]
  have hall := permIn_all (arr 4 f4) d 0 4 (fun x => (keyV x.toNat = W63 ∧ kindV x.toNat = 6) ∨ (keyV x.toNat = 4607182418800017408) ∨ (keyV x.toNat = -1 ∧ kindV x.toNat = 2) ∨ keyV x.toNat = 0) (by rw [size_arr]; omega) hp (fun i _ hi => by rw [arr_get 4 f4 i hi]; exact f4_key i hi)
  have hle : ∀ i j, i ≤ j → j < 4 → keyV (d[i]!).toNat ≤ keyV (d[j]!).toNat := fun i j h1 h2 => by
    have := sorted_le swoF hs (i := i) (j := j) (Nat.zero_le _) h1 h2
    rw [lt_key] at this
    simpa using this
  have lo := permIn_all d (arr 4 f4) 0 4 (fun x => keyV (d[0]!).toNat ≤ keyV x.toNat) (by omega) (perm_symm hp) (fun i _ hi => hle 0 i (Nat.zero_le _) hi) 2 (by omega) (by omega)
  have hi := permIn_all d (arr 4 f4) 0 4 (fun x => keyV x.toNat ≤ keyV (d[3]!).toNat) (by omega) (perm_symm hp) (fun i _ hi => hle i 3 (by omega) (by omega)) 0 (by omega) (by omega)
  rw [arr_get 4 f4 2 (by omega), show keyV (f4 2).toNat = -1 by decide] at lo
  rw [arr_get 4 f4 0 (by omega), show keyV (f4 0).toNat = 9223372036854775808 by decide] at hi
  have h0 := hall 0 (by omega) (by omega)
  have h3 := hall 3 (by omega) (by omega)
  have hW : (W63 : Int) = 9223372036854775808 := by decide
  constructor <;> omega

theorem row4 (w : World) : Row (some ⟨w.heap.size, 0, none⟩) 4 f4 (w.alloc (.cells #[.float .f64 9221120237041090561, .float .f64 4607182418800017408, .float .f64 9223372036854775808, .float .f64 0] 23)) := fun i hi => by
  refine ⟨_, _, rfl, by simp, ?_⟩
  have : i = 0 ∨ i = 1 ∨ i = 2 ∨ i = 3 := by omega
  rcases this with rfl | rfl | rfl | rfl <;> simp [encF, f4]

theorem pt_quarter : ptV 4598175219545276416 = 2500 ∧ ptE 4598175219545276416 = 0 := ⟨by kernel_rfl, by kernel_rfl⟩
theorem pt_nan : ptV 9221120237041090561 = 0 ∧ ptE 9221120237041090561 = 3 := ⟨by kernel_rfl, by kernel_rfl⟩
theorem cl_seven : clV 4619567317775286272 = 4607182418800017408 := by kernel_rfl
theorem one_one : (FloatKind.f64.format.order 4607182418800017408 4607182418800017408 == some .eq) = true := by kernel_rfl

theorem below_drewN' {B : Nat} {a w : World} (h : Below B a w) (n : Nat) : Below B a (w.drewN n) := h.trans ⟨rfl, rfl, rfl, Nat.le_refl _, fun _ _ => rfl⟩

set_option maxHeartbeats 1000000 in
theorem works_any (w : World) : Calls Try.prog 12 #[] w fun e w' => e = .returned (.bool true) ∧ Below w.heap.size w w' := by
  have p1 := fun w => points_any 4598175219545276416 (by omega) w
  have p2 := fun w => points_any 9221120237041090561 (by omega) w
  rw [pt_quarter.1, pt_quarter.2] at p1
  rw [pt_nan.1, pt_nan.2] at p2
  have o1 := fun w => of_any 0 0 (by omega) (by omega) (by omega) (by omega) w
  have o2 := fun w => of_any 1 0 (by omega) (by omega) (by omega) (by omega) w
  have c7 := fun w => clamp_any 4619567317775286272 (by omega) w
  rw [cl_seven] at c7
  have eq1 := one_one
  have srt := sort_of (some ⟨w.heap.size, 0, none⟩) 4 4 f4 (w.alloc (.cells #[.float .f64 9221120237041090561, .float .f64 4607182418800017408, .float .f64 9223372036854775808, .float .f64 0] 23)) (by omega) (stab_small 4 (by omega)) (row4 w)
  have es : (w.alloc (.cells #[.float .f64 9221120237041090561, .float .f64 4607182418800017408, .float .f64 9223372036854775808, .float .f64 0] 23)).heap.size = w.heap.size + 1 := by simp
  rw [es] at srt
  clear es
  go_enter Try.func12, Try.ntmps12
  go_wp2_with fail
  refine (p1 _).mono ?_
  rintro e w' ⟨rfl, rfl⟩
  go_wp2_with fail
  refine (nan_any _).mono ?_
  rintro e w' ⟨rfl, rfl⟩
  go_wp2_with fail
  refine (p2 _).mono ?_
  rintro e w' ⟨rfl, rfl⟩
  go_wp2_with fail
  refine (nan_any _).mono ?_
  rintro e w' ⟨rfl, rfl⟩
  go_wp2_with fail
  refine (copysign_call _).mono ?_
  rintro e w' ⟨rfl, rfl⟩
  go_wp2_with fail
  refine srt.mono ?_
  rintro e w1 ⟨rfl, d, P, Q, H, L, B⟩
  have K := sorted_four d P Q
  have hsd : d.size = 4 := by rw [P.1, size_arr]
  have c0 := (H 0 (by omega)).1
  have c3 := (H 3 (by omega)).1
  have BB : Aside (Below w'.heap.size w' w1) := (below_alloc1 w' _).trans (B.mono (by simp))
  obtain ⟨x0, hx0⟩ : ∃ x, x = (d[0]!).toNat := ⟨_, rfl⟩
  obtain ⟨x3, hx3⟩ : ∃ x, x = (d[3]!).toNat := ⟨_, rfl⟩
  have b0 : x0 < 18446744073709551616 := by rw [hx0]; exact UInt64.toNat_lt _
  have b3 : x3 < 18446744073709551616 := by rw [hx3]; exact UInt64.toNat_lt _
  rw [← hx0, ← hx3] at K
  unfold encF at c0 c3
  rw [← hx0] at c0
  rw [← hx3] at c3
  have k0 := fun w => kind_any x0 b0 w
  have k3 := fun w => kind_any x3 b3 w
  rw [K.1] at k0
  rw [K.2] at k3
  clear hx0 hx3 K P Q H L B srt hsd b0 b3
  clear d
  go_wp2_with fail
  refine (o1 _).mono ?_
  rintro e w2 ⟨⟨r, rfl, hr⟩, q1, rfl⟩
  have kr := fun w => kind_any r hr.1 w
  rw [kind_nan (hr.2.1 rfl rfl)] at kr
  clear hr
  go_wp2_with fail
  refine (kr _).mono ?_
  rintro e w2 ⟨rfl, rfl⟩
  clear kr
  go_wp2_with fail
  refine (o2 _).mono ?_
  rintro e w2 ⟨⟨r2, rfl, hr⟩, q2, rfl⟩
  have kr := fun w => kind_any r2 hr.1 w
  have er : r2 = 9218868437227405312 := hr.2.2.1 rfl (by decide)
  rw [er] at kr
  rw [show kindV 9218868437227405312 = 5 by decide] at kr
  subst er
  clear hr
  go_wp2_with fail
  refine (kr _).mono ?_
  rintro e w2 ⟨rfl, rfl⟩
  clear kr
  go_wp2_with fail
  refine (k0 _).mono ?_
  rintro e w2 ⟨rfl, rfl⟩
  go_wp2_with fail
  refine (k3 _).mono ?_
  rintro e w2 ⟨rfl, rfl⟩
  go_wp2_with fail
  refine (c7 _).mono ?_
  rintro e w2 ⟨rfl, rfl⟩
  go_wp2
  go_ret
  exact ⟨rfl, below_drewN' BB.out _⟩
end Go.Proofs.Ytcfmacpogmkadaa
