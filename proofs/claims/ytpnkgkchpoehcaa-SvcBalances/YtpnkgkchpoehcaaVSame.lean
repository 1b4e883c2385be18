/-
  What slices.Equal (of adjustments) answers, as a contract: whether two rows are the same.
-/
import Derived.Test.YtpnkgkchpoehcaaVEq
import Derived.BigQuiet
set_option linter.unusedSimpArgs false
set_option linter.unusedVariables false
set_option maxRecDepth 100000
namespace Go.Proofs.Ytpnkgkchpoehcaa.Sv
open Go.RowKit
open Bk (keepB below_alloc below_trans alloc_new)
open Cm (mk_ne takes_eq takes_ne takes_all lens_ne)
open Classical

set_option maxHeartbeats 2000000 in
theorem equal_any (v v' : Value) (xs ys : List Ca) (w : World) (h : CasAt All w v xs) (h' : CasAt All w v' ys) :
    Calls Try.prog 42 #[v, v'] w fun e w' => e = .returned (.bool (decide (xs = ys))) ∧ Below w.heap.size w w' := by
  obtain ⟨a, c, rfl, f1, f2⟩ := h.form
  obtain ⟨a', c', rfl, f1', f2'⟩ := h'.form
  have HF := Lib.hid h
  have HF' := Lib.hid h'
  clear h h'
  by_cases hl : xs.length = ys.length
  · have hlb : ((xs.length : Int) != (ys.length : Int)) = false := by rw [hl]; simp
    have HL := Lib.hid hl
    have hl2 : xs.length ≤ ys.length := by omega
    clear hl
    go_enter Try.func42, Try.ntmps42
    go_wp2
    go_loopg [13] (xs.length) (fun g i wr => ∃ (k : Nat), k ≤ xs.length ∧ g = xs.length - k ∧ i = .int .i64 k ∧ Hid (Below w.heap.size w wr) ∧ Hid (xs.take k = ys.take k))
    case atStart => exact ⟨0, Nat.zero_le _, rfl, rfl, Below.refl _ _, rfl⟩
    case round =>
      obtain ⟨k, hk, hg, rfl, HBn, HA⟩ := hrel
      by_cases hlt : k < xs.length
      · have hltz : (k : Int) < (xs.length : Int) := by omega
        have hlt' : k < ys.length := by omega
        obtain ⟨b, oo, rfl, -, -, hx, hc⟩ := CasAt.get (HF.out.grw HBn.out) k hlt
        obtain ⟨b2, o2, rfl, -, -, hy, hc2⟩ := CasAt.get (HF'.out.grw HBn.out) k hlt'
        have HQ := Lib.hid (takes_eq xs ys k _ _ hx hy HA.out)
        have HN := Lib.hid (takes_ne xs ys k _ _ hx hy)
        have hi1 : k < xs.length := hlt
        have hi2 : k < ys.length := hlt'
        generalize xs[k] = x at *
        generalize ys[k] = y at *
        obtain ⟨x0, x1, x2⟩ := hc
        obtain ⟨y0, y1, y2⟩ := hc2
        clear hx hy
        have hne := neq_cas x y
        by_cases he : x = y
        · have HE2 := Lib.hid (HQ.out he)
          rw [decide_eq_true he, Bool.not_true] at hne
          clear he HN HQ
          go_wp2_with fail
          go_quiet (fail)
          have HBW : Hid (Below w.heap.size w (wr.drewN nq)) := HBn.out.trans ⟨rfl, rfl, rfl, Nat.le_refl _, fun _ _ => rfl⟩
          go_wp2
          go_roundg (xs.length - (k + 1))
          case measure => omega
          case rel => exact ⟨k + 1, by omega, rfl, by go_num, HBW.out, HE2.out⟩
        · have HE2 := Lib.hid (HN.out he)
          rw [decide_eq_false he, Bool.not_false] at hne
          clear he HN HQ
          go_wp2_with fail
          go_quiet (fail)
          have HBW : Hid (Below w.heap.size w (wr.drewN nq)) := HBn.out.trans ⟨rfl, rfl, rfl, Nat.le_refl _, fun _ _ => rfl⟩
          go_wp2
          go_ret
          exact ⟨by rw [HE2.out]; rfl, HBW.out⟩
      · have hltz : ¬ (k : Int) < (xs.length : Int) := by omega
        have HE2 := Lib.hid (takes_all xs ys k (by omega) HL.out HA.out)
        go_wp2
        go_ret
        exact ⟨by rw [HE2.out]; rfl, HBn.out⟩
  · have hlb : ((xs.length : Int) != (ys.length : Int)) = true := by simp; omega
    rw [lens_ne xs ys hl]
    clear hl
    go_enter Try.func42, Try.ntmps42
    go_wp2
    go_ret
    exact ⟨rfl, Below.refl _ _⟩
end Go.Proofs.Ytpnkgkchpoehcaa.Sv
