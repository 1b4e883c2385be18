/-
  What the reference's Sort answers, as a contract: a new row in which each stands behind as many as are ahead of it.
-/
import Derived.Test.YtcfmacpogmkadaaWRank
namespace Go.Proofs.Ytcfmacpogmkadaa
open Go.Shelf Go.RowKit Go.Lib Go.Sort

theorem set_other (d : Array UInt64) (k j : Nat) (x : UInt64) (h : j ≠ k) : (d.setIfInBounds k x)[j]! = d[j]! := by
  simp only [getElem!_def, Array.getElem?_setIfInBounds, if_neg (Ne.symm h)]

/-- A row of the call's own. -/
structure Out (w : World) (n : Nat) (d : Array UInt64) (W : World) : Prop where
  holds : Holds encF W w.heap.size 0 d
  size : d.size = n
  lt : w.heap.size < W.heap.size
  below : Below w.heap.size w W
theorem Out.drewN {w : World} {n : Nat} {d : Array UInt64} {W : World} (h : Out w n d W) (q : Nat) : Out w n d (W.drewN q) := ⟨h.holds, h.size, h.lt, below_drewN' h.below q⟩
theorem Out.set {w : World} {n : Nat} {d : Array UInt64} {W : World} (h : Out w n d W) (k : Nat) (x : UInt64) (hk : k < n) : Out w n (d.setIfInBounds k x) (W.setCell ⟨w.heap.size, k, none⟩ (encF x)) := by
  refine ⟨fun j hj => ?_, by rw [Array.size_setIfInBounds]; exact h.size, by simpa using h.lt, h.below.setCell (Nat.le_refl _) _⟩
  rw [Array.size_setIfInBounds] at hj
  have hh := h.holds j hj
  rw [Nat.zero_add] at *
  refine ⟨?_, by rw [World.frozen?_setCell]; exact hh.2⟩
  by_cases e : j = k
  · subst e
    rw [getElem!_set_same d j x hj]
    exact World.cell?_setCell_same _ _ _ hh.1
  · rw [World.cell?_setCell_other _ _ _ _ (by intro e'; simp only [Addr.mk.injEq] at e'; omega), hh.1]
    rw [set_other d k j x e]
theorem out_start (w : World) (n : Nat) : Out w n (Array.replicate n 0) (w.alloc (.cells (madeCells #[.float .f64 0] n) 23)) := by
  have hg : (w.alloc (.cells (madeCells #[.float .f64 0] n) 23)).heap[w.heap.size]? = some (.cells (madeCells #[.float .f64 0] n) 23 (0, 0)) := by
    show (w.heap.push _)[w.heap.size]? = _
    simp
  refine ⟨fun j hj => ?_, by simp, by simp, below_alloc1 w _⟩
  rw [Array.size_replicate] at hj
  constructor
  · unfold World.cell?
    simp only [hg]
    rw [getElem!_pos _ j (by simpa using hj), Array.getElem_replicate]
    simp [madeCells, hj, encF, Nat.mod_one]
  · unfold World.frozen?
    simp only [hg]
    simp
theorem Out.cell {w : World} {n : Nat} {d : Array UInt64} {W : World} (h : Out w n d W) (k : Nat) (hk : k < n) : W.cell? ⟨w.heap.size, k, none⟩ = some (encF d[k]!) := by
  have := (h.holds k (by rw [h.size]; exact hk)).1
  rwa [Nat.zero_add] at this
theorem Out.free {w : World} {n : Nat} {d : Array UInt64} {W : World} (h : Out w n d W) (k : Nat) (hk : k < n) : W.frozen? ⟨w.heap.size, k, none⟩ = false := by
  have := (h.holds k (by rw [h.size]; exact hk)).2
  rwa [Nat.zero_add] at this

/-- Where the first i have been put. -/
def Put (f : Nat → UInt64) (n i : Nat) (d : Array UInt64) : Prop := ∀ t, t < i → ∃ i', i' < i ∧ rk f i' n = rk f t n ∧ d[rk f t n]! = f i'
theorem put_step (f : Nat → UInt64) (n i : Nat) (d : Array UInt64) (hs : d.size = n) (hi : i < n) (h : Put f n i d) : Put f n (i + 1) (d.setIfInBounds (rk f i n) (f i)) := by
  have hr := rk_lt f i n hi
  intro t ht
  by_cases e : rk f t n = rk f i n
  · exact ⟨i, by omega, e.symm, by rw [e]; exact getElem!_set_same d _ _ (by omega)⟩
  · have htn : t < i := by
      rcases Nat.lt_or_ge t i with c | c
      · exact c
      · have : t = i := by omega
        exact absurd (by rw [this]) e
    obtain ⟨i', h1, h2, h3⟩ := h t htn
    refine ⟨i', by omega, h2, ?_⟩
    rw [← h3]
    exact set_other d _ _ _ e

set_option maxHeartbeats 2000000 in
theorem refSort_any (a : Option Addr) (n cap : Nat) (f : Nat → UInt64) (w : World) (hm : n < 17592186044416) (hr : Row a n f w) :
    Calls Try.prog 19 #[.slice a n cap] w fun e w' => e = .returned (.slice (some ⟨w.heap.size, 0, none⟩) n n) ∧ ∃ d, Put f n n d ∧ Out w n d w' := by
  have hmk := run_mk n hm
  have HR : Aside (Row a n f w) := hr
  have S0 : Aside (Out w n (Array.replicate n 0) (w.alloc (.cells (madeCells #[.float .f64 0] n) 23))) := out_start w n
  clear hr
  go_enter Try.func19, Try.ntmps19
  go_wp2
  go_loopg [4] n (fun k v4 wr => ∃ (i : Nat) (d : Array UInt64), v4 = .int .i64 i ∧ i ≤ n ∧ n - i ≤ k ∧ Aside (Put f n i d) ∧ Aside (Out w n d wr))
  case atStart => exact ⟨0, Array.replicate n 0, rfl, Nat.zero_le _, by omega, fun t ht => by omega, S0⟩
  case round =>
    clear S0 hmk
    obtain ⟨i, d, rfl, hin, hk, HP, HO⟩ := hrel
    by_cases hlt : i < n
    · have hltz : (i : Int) < (n : Int) := by omega
      have hrow := row_below HR.out HO.out.below
      have HRW : Aside (Row a n f wr) := hrow
      obtain ⟨b, off, rfl, lb, dc⟩ := hrow i hlt
      clear hrow
      obtain ⟨xi, hxi⟩ : ∃ x, x = (f i).toNat := ⟨_, rfl⟩
      have bxi : xi < 18446744073709551616 := by rw [hxi]; exact UInt64.toNat_lt _
      have HXI : Aside (xi = (f i).toNat) := hxi
      unfold encF at dc
      rw [← hxi] at dc
      clear hxi
      have hrk : ∀ j, j ≤ n → rk f i j ≤ n := fun j hj => Nat.le_trans (cn_le _ _) hj
      have HRK : Aside (∀ j, j ≤ n → rk f i j ≤ n) := hrk
      clear hrk
      obtain ⟨W, hW⟩ : ∃ W, W = wr := ⟨_, rfl⟩
      have HWr : Aside (W = wr) := hW
      clear hW
      go_wp2
      go_loopg [5, 6] n (fun k v5 v6 wr2 => ∃ j q : Nat, v5 = .int .i64 (rk f i j) ∧ v6 = .int .i64 j ∧ j ≤ n ∧ n - j ≤ k ∧ Aside (wr2 = W.drewN q))
      case atStart => exact ⟨0, 0, rfl, rfl, Nat.zero_le _, by omega, (show wr = W.drewN 0 by rw [HWr.out]; rfl)⟩
      case round =>
        rename_i gk0
        obtain ⟨j, q, rfl, rfl, hjn, hk2, HW2⟩ := hrel
        by_cases hlt2 : j < n
        · have hltz2 : (j : Int) < (n : Int) := by omega
          have rb := HRK.out j hjn
          obtain ⟨b', off', e', lb', dc'⟩ := HRW.out j hlt2
          simp only [Option.some.injEq, Addr.mk.injEq, and_true] at e'
          obtain ⟨rfl, rfl⟩ := e'
          obtain ⟨xj, hxj⟩ : ∃ x, x = (f j).toNat := ⟨_, rfl⟩
          have bxj : xj < 18446744073709551616 := by rw [hxj]; exact UInt64.toNat_lt _
          unfold encF at dc'
          rw [← hxj] at dc'
          have g1 : wr.cell? ⟨b, off + i, none⟩ = some (.float .f64 xi) := by rw [HW2.out, HWr.out]; exact dc
          have g2 : wr.cell? ⟨b, off + j, none⟩ = some (.float .f64 xj) := by rw [HW2.out, HWr.out]; exact dc'
          have hcmp := fun w => refCmp_any xj xi bxj bxi w
          have hah : Aside (ahd f i j = (decide (cmpV xj xi < 0) || (decide (cmpV xj xi = 0) && decide (j < i)))) := (show ahd f i j = _ by rw [hxj, HXI.out]; rfl)
          have hst : Aside (rk f i (j + 1) = rk f i j + (ahd f i j).toNat) := (show rk f i (j + 1) = rk f i j + (ahd f i j).toNat from rfl)
          clear dc' hxj
          generalize cmpV xj xi = o at *
          go_wp2_with fail
          go_quiet (first | (go_at_call 16; refine Calls.quiet_of_same (hcmp _)))
          have HW3 : Aside (wr.drewN nq = W.drewN (q + nq)) := (show wr.drewN nq = W.drewN (q + nq) by rw [HW2.out, World.drewN_drewN])
          clear g1 g2 hcmp
          generalize wr.drewN nq = w3 at HW3 ⊢
          by_cases c1 : o < 0
          · have hv : Aside (rk f i (j + 1) = rk f i j + 1) := (show rk f i (j + 1) = rk f i j + 1 by rw [hst.out, hah.out]; simp [c1])
            clear hst hah
            go_wp2
            go_roundg (n - (j + 1))
            case measure => omega
            case rel => exact ⟨j + 1, q + nq, by rw [hv.out]; first | rfl | go_num | (congr 1; omega), by first | go_num | (congr 1; omega), by omega, by omega, HW3⟩
          · by_cases c2 : o = 0
            · have c2b : (o == 0) = true := by rw [beq_iff_eq]; exact c2
              by_cases c3 : j < i
              · have c3z : (j : Int) < (i : Int) := by omega
                have hv : Aside (rk f i (j + 1) = rk f i j + 1) := (show rk f i (j + 1) = rk f i j + 1 by rw [hst.out, hah.out]; simp [c2, c3])
                clear hst hah c2
                go_wp2
                go_roundg (n - (j + 1))
                case measure => omega
                case rel => exact ⟨j + 1, q + nq, by rw [hv.out]; first | rfl | go_num | (congr 1; omega), by first | go_num | (congr 1; omega), by omega, by omega, HW3⟩
              · have c3z : ¬ (j : Int) < (i : Int) := by omega
                have hv : Aside (rk f i (j + 1) = rk f i j) := (show rk f i (j + 1) = rk f i j by rw [hst.out, hah.out]; simp [c1, c3])
                clear hst hah c2
                go_wp2
                go_roundg (n - (j + 1))
                case measure => omega
                case rel => exact ⟨j + 1, q + nq, by rw [hv.out], by first | go_num | (congr 1; omega), by omega, by omega, HW3⟩
            · have c2b : (o == 0) = false := by rw [beq_eq_false_iff_ne]; exact c2
              have hv : Aside (rk f i (j + 1) = rk f i j) := (show rk f i (j + 1) = rk f i j by rw [hst.out, hah.out]; simp [c1, c2])
              clear hst hah c2
              go_wp2
              go_roundg (n - (j + 1))
              case measure => omega
              case rel => exact ⟨j + 1, q + nq, by rw [hv.out], by first | go_num | (congr 1; omega), by omega, by omega, HW3⟩
        · have hltz2 : ¬ (j : Int) < (n : Int) := by omega
          have hjn' : j = n := by omega
          subst hjn'
          have hrn := rk_lt f i j hlt
          obtain ⟨K, hK⟩ : ∃ K, K = rk f i j := ⟨_, rfl⟩
          have HK : Aside (K = rk f i j) := hK
          rw [← hK] at hrn ⊢
          clear hK
          have HO2 : Aside (Out w j d wr) := by
            have := HO.out.drewN q
            rw [← HWr.out] at this
            rw [← HW2.out] at this
            exact this
          have g1 : wr.cell? ⟨b, off + i, none⟩ = some (.float .f64 xi) := by rw [HW2.out, HWr.out]; exact dc
          have g2 := HO2.out.cell K hrn
          have g3 := HO2.out.free K hrn
          have HO3 : Aside (Out w j (d.setIfInBounds K (f i)) (wr.setCell ⟨w.heap.size, K, none⟩ (.float .f64 xi))) := by
            have := HO2.out.set K (f i) hrn
            unfold encF at this
            rw [← HXI.out] at this
            exact this
          have hltK : (K : Int) < (j : Int) := by omega
          have hst : ∀ (a : Addr) (m : Mode) (w : World), Sem.run Try.prog (store a (.float .f64 xi) m) w = stored Try.prog w a (.float .f64 xi) m := by
            have := oneF.store Try.prog (f i)
            unfold encF at this
            rw [← HXI.out] at this
            exact this
          go_wp2
          go_roundg (j - (i + 1))
          case measure => omega
          case rel => exact ⟨i + 1, d.setIfInBounds K (f i), by first | go_num | (congr 1; omega), by omega, by omega, by
            rw [HK.out]; exact put_step f j i d HO.out.size hlt HP.out, HO3⟩
    · have hltz : ¬ (i : Int) < (n : Int) := by omega
      have hin' : i = n := by omega
      subst hin'
      go_wp2
      go_ret
      exact ⟨rfl, d, HP.out, HO.out⟩
end Go.Proofs.Ytcfmacpogmkadaa
