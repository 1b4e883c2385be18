/-
  What the reference's Batch answers, as a contract.
-/
import Derived.Test.YtpmlmoclocccoaaDoorLRCk
set_option linter.unusedSimpArgs false
namespace Go.Proofs.YtpmlmoclocccoaaDoor.Cm
open Go.RowKit

set_option maxHeartbeats 2000000 in
theorem rbatch_any (n : Int) (m : Value) (l : List Cl) (w : World) (hm : ClsAt All w m l) (hz : ∀ c ∈ l, ClOk c) (hl : ∀ c ∈ l, c.lines.length ≤ 1000000) :
    Calls Tryd.prog 20 #[btv n m] w fun e w' => e = .returned (.int .i64 (batchE n l)) ∧ Below w.heap.size w w' := by
  have HB := Lib.hid fun o => below_alloc w o
  have HM := Lib.hid hm
  have HZ := Lib.hid hz
  have HLN := Lib.hid hl
  have HBX : Hid (∀ w', Below (w.alloc (boxb n m)).heap.size (w.alloc (boxb n m)) w' → w'.cell? ⟨w.heap.size, 1, none⟩ = some m ∧ Below w.heap.size w w') := fun w' hb => by
    refine ⟨?_, below_trans (below_alloc w _) hb⟩
    rw [hb.cell (p := ⟨w.heap.size, 1, none⟩) (by simp)]
    simp
  obtain ⟨a, k, rfl, f1, f2⟩ := ClsAt.form hm
  clear hm hz hl
  by_cases g1 : n < 0
  · have hE : batchE n l = 3 := by unfold batchE; rw [decide_eq_false (p := 0 ≤ n) (by omega)]; simp
    have d1 : decide (n < 0) = true := decide_eq_true g1
    rw [hE]
    go_enter Tryd.func20, Tryd.ntmps20
    go_wp2
    go_ret
    exact ⟨rfl, HB.out _⟩
  have d1 : decide (n < 0) = false := decide_eq_false g1
  by_cases g2 : 999999999 < n
  · have hE : batchE n l = 3 := by unfold batchE; rw [decide_eq_false (p := n ≤ 999999999) (by omega)]; simp
    have d2 : decide (999999999 < n) = true := decide_eq_true g2
    rw [hE]
    go_enter Tryd.func20, Tryd.ntmps20
    go_wp2
    go_ret
    exact ⟨rfl, HB.out _⟩
  have d2 : decide (999999999 < n) = false := decide_eq_false g2
  have hq : (decide (0 ≤ n) && decide (n ≤ 999999999)) = true := by rw [decide_eq_true (p := 0 ≤ n) (by omega), decide_eq_true (p := n ≤ 999999999) (by omega)]; rfl
  by_cases g3 : l.length ≤ 256
  case neg =>
    have hE : batchE n l = 10 := by unfold batchE; rw [if_pos hq, if_neg g3]
    have g3' : (256 : Int) < (l.length : Int) := by omega
    have d3 : decide ((256 : Int) < (l.length : Int)) = true := decide_eq_true g3'
    rw [hE]
    clear hq
    go_enter Tryd.func20, Tryd.ntmps20
    go_wp2
    go_ret
    exact ⟨rfl, HB.out _⟩
  have hE : batchE n l = firstC l := by unfold batchE; rw [if_pos hq, if_pos g3]
  have g3' : ¬ (256 : Int) < (l.length : Int) := by omega
  have d3 : decide ((256 : Int) < (l.length : Int)) = false := decide_eq_false g3'
  rw [hE]
  clear hq hE
  go_enter Tryd.func20, Tryd.ntmps20
  go_wp2
  go_loopg [3] (l.length) (fun g i wr => ∃ j : Nat, j ≤ l.length ∧ g = l.length - j ∧ i = .int .i64 j ∧ Hid (Below (w.alloc (boxb n (.slice a l.length k))).heap.size (w.alloc (boxb n (.slice a l.length k))) wr) ∧ Hid (firstC (l.drop j) = firstC l))
  case atStart => exact ⟨0, Nat.zero_le _, rfl, rfl, Below.refl _ _, by rfl⟩
  case round =>
    obtain ⟨j, hj, hg, rfl, HB2, HF⟩ := hrel
    obtain ⟨x1, hbw⟩ := HBX.out _ HB2.out
    have HBW := Lib.hid hbw
    by_cases hlt : j < l.length
    · have hL := ClsAt.move HM.out (Below.moves hbw)
      obtain ⟨b, o, m, rfl, hx, ⟨c0, c1, c2, c3, c4, c5, c6⟩, hr⟩ := ClsAt.get hL j hlt
      have HC := Lib.hid (rcheck_any l[j] m wr hr (HZ.out _ (List.mem_of_getElem? hx)) (HLN.out _ (List.mem_of_getElem? hx)))
      have HBD := Lib.hid (firstC_bad l j _ hx HF.out)
      have HST := Lib.hid (firstC_step l j _ hx HF.out)
      obtain ⟨am, cm, rfl, -, -⟩ := LnsAt.form hr
      clear hx hr hL hbw
      by_cases he : checkE l[j] = 0
      · have HQ := Lib.hid (HST.out he)
        rw [he] at HC
        clear he HBD HST
        go_wp2_with (first | (go_at_call 14; refine (HC.out).mono ?_; rintro e w1 ⟨rfl, hb⟩; have HB3 := Lib.hid (below_trans HB2.out hb); clear hb))
        go_roundg (l.length - (j + 1))
        case rel => exact ⟨j + 1, by omega, rfl, by go_num, HB3.out, HQ.out⟩
        case measure => omega
      · have HQ := Lib.hid (HBD.out he)
        have hb0 : (checkE l[j] != 0) = true := by simpa using he
        clear he HBD HST
        go_wp2_with (first | (go_at_call 14; refine (HC.out).mono ?_; rintro e w1 ⟨rfl, hb⟩; have HB3 := Lib.hid (below_trans HBW.out hb); clear hb))
        go_ret
        exact ⟨by rw [HQ.out]; rfl, HB3.out⟩
    · have HQ := Lib.hid (firstC_end l j (by omega) HF.out)
      clear hbw
      go_wp2
      go_ret
      exact ⟨by rw [HQ.out]; rfl, HBW.out⟩
end Go.Proofs.YtpmlmoclocccoaaDoor.Cm
