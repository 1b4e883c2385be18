/-
  What claim.lines answers, as a contract: the first service's error that may not be beside those ahead of it.
-/
import Derived.Test.YtpmlmoclocccoaaDoorLLine
set_option linter.unusedSimpArgs false
namespace Go.Proofs.YtpmlmoclocccoaaDoor.Cm
open Go.RowKit

theorem yearV_good {n : Int} (h : Da.good n = true) : Da.yearV n = Da.yr n := by simp [Da.yearV, h]

set_option maxHeartbeats 2000000 in
theorem lines_any (v : Value) (ls : List Ln) (w : World) (h : LnsAt All w v ls) (hz : ∀ x ∈ ls, LnOk x) (hT : Da.Tab w) :
    Calls Tryd.prog 28 #[v] w fun e w' => e = .returned (.int .i64 (linesE ls)) ∧ Below w.heap.size w w' := by
  have HV := Lib.hid h
  have HZ := Lib.hid hz
  have HT := Lib.hid hT
  obtain ⟨a, c, rfl, h1, h2⟩ := LnsAt.form h
  clear h hz hT
  unfold linesE
  obtain ⟨y, hy⟩ : ∃ y, y = Da.yr (ls.getD 0 ln0).date := ⟨_, rfl⟩
  rw [← hy]
  have HY := Lib.hid hy
  clear hy
  go_enter Tryd.func28, Tryd.ntmps28
  go_wp2
  go_step3
  go_wp2
  go_step3
  go_wp2
  go_loopg [7] (ls.length) (fun g i wr => ∃ k : Nat, k ≤ ls.length ∧ g = ls.length - k ∧ i = .int .i64 k ∧ Hid (Below w.heap.size w wr) ∧ Hid (firstE y (ls.drop k) = firstE y ls) ∧ Hid (∀ x, ls[0]? = some x → 0 < k → lineE x = 0))
  case atStart => exact ⟨0, Nat.zero_le _, rfl, rfl, Below.refl _ _, by rfl, fun _ _ h => absurd h (by omega)⟩
  case round =>
    obtain ⟨k, hk, hg, rfl, HB, HF, H0⟩ := hrel
    by_cases hlt : k < ls.length
    · have hL := LnsAt.move HV.out (Below.moves HB.out)
      have hpos : 0 < ls.length := by omega
      obtain ⟨b, o, m, rfl, hx, hc, hr⟩ := LnsAt.get hL k hlt
      obtain ⟨b', o', m0, e0, hx0, hc0, -⟩ := LnsAt.get hL 0 hpos
      injection e0 with e0
      injection e0 with e1 e2
      subst e1 e2
      have hzk := HZ.out _ (List.mem_of_getElem? hx)
      have hz0 := HZ.out _ (List.mem_of_getElem? hx0)
      have HC := Lib.hid (line_any ls[k] m wr hr hzk (tab_below HT.out HB.out))
      have HX : Hid (∀ w1, Below wr.heap.size wr w1 → w1.cell? ⟨b, o + k * 6 + 2, none⟩ = some (.int .i64 ls[k].date) ∧ w1.cell? ⟨b, o + 2, none⟩ = some (.int .i64 ls[0].date) ∧ Da.Tab w1) := fun w1 hb => by
        have hbl := World.block_lt_of_cell? wr _ hc.1
        refine ⟨(hc.of (hb.block _ hbl)).2.2.1, ?_, tab_below (tab_below HT.out HB.out) hb⟩
        have := (hc0.of (hb.block _ hbl)).2.2.1
        simpa using this
      obtain ⟨c0, c1, c2, c3, c4, c5⟩ := hc
      obtain ⟨am, cm, rfl, -, -⟩ := TxAt.form hr
      have hik := hzk.1
      have hi0 := hz0.1
      obtain ⟨l1, l2⟩ := hik
      obtain ⟨l3, l4⟩ := hi0
      have HBAD := Lib.hid (firstE_bad y ls k _ hx HF.out)
      have HYR := Lib.hid (firstE_yr y ls k _ hx HF.out)
      have HST := Lib.hid (firstE_step y ls k _ hx HF.out)
      by_cases he : lineE ls[k] = 0
      · have hgk := lineE_date he
        have hg0 : Da.good ls[0].date = true := by
          by_cases hk0 : k = 0
          · subst hk0; exact hgk
          · exact lineE_date (H0.out _ hx0 (by omega))
        have hy0 : y = Da.yr ls[0].date := by rw [HY.out, List.getD_eq_getElem?_getD, hx0]; rfl
        have H0' : Hid (∀ x, ls[0]? = some x → 0 < k + 1 → lineE x = 0) := fun x hx1 _ => by
          by_cases hk0 : k = 0
          · subst hk0
            rw [hx] at hx1
            rw [← Option.some.inj hx1]; exact he
          · exact H0.out x hx1 (by omega)
        rw [he] at HC
        have hyk := yearV_good hgk
        have hy0' := yearV_good hg0
        rw [← hy0] at hy0'
        clear hy0 hx hx0 hr hL hzk hz0 hc0 HBAD
        by_cases hyy : Da.yr ls[k].date = y
        · have HQ := Lib.hid (HST.out he hyy)
          have hbe : (Da.yearV ls[k].date == Da.yearV ls[0].date) = true := by rw [hyk, hy0', hyy]; simp
          clear hyy hyk hy0' hgk hg0 he
          go_wp2_with (first | (go_at_call 15; refine (HC.out).mono ?_; rintro e w1 ⟨rfl, hb⟩; obtain ⟨n1, n2, n3⟩ := HX.out _ hb; have HB2 := Lib.hid (below_trans HB.out hb); have HT1 := Lib.hid n3; clear n3 hb))
          go_quiet (first | (go_at_call 44; refine Calls.quiet_of_same (Da.year_any _ _ HT1.out (by assumption) (by assumption))))
          go_wp2
          go_roundg (ls.length - (k + 1))
          case rel => exact ⟨k + 1, by omega, rfl, by go_num, below_trans HB2.out (below_drewq ⟨_, rfl⟩), HQ.out, H0'.out⟩
          case measure => omega
        · have HQ := Lib.hid (HYR.out he hyy)
          have hbe : (Da.yearV ls[k].date == Da.yearV ls[0].date) = false := by rw [hyk, hy0']; simpa using hyy
          clear hyy hyk hy0' hgk hg0 he
          go_wp2_with (first | (go_at_call 15; refine (HC.out).mono ?_; rintro e w1 ⟨rfl, hb⟩; obtain ⟨n1, n2, n3⟩ := HX.out _ hb; have HB2 := Lib.hid (below_trans HB.out hb); have HT1 := Lib.hid n3; clear n3 hb))
          go_quiet (first | (go_at_call 44; refine Calls.quiet_of_same (Da.year_any _ _ HT1.out (by assumption) (by assumption))))
          go_wp2
          try rw [Exit.noGoto_ret]
          go_ret
          exact ⟨by rw [HQ.out]; rfl, below_trans HB2.out (below_drewq ⟨_, rfl⟩)⟩
      · have HQ := Lib.hid (HBAD.out he)
        have hbe : (lineE ls[k] != 0) = true := by simpa using he
        clear hx hx0 hr hL hzk hz0 hc0 HBAD he HX
        go_wp2_with (first | (go_at_call 15; refine (HC.out).mono ?_; rintro e w1 ⟨rfl, hb⟩; have HB2 := Lib.hid (below_trans HB.out hb); clear hb))
        try rw [Exit.noGoto_ret]
        go_ret
        exact ⟨by rw [HQ.out]; rfl, HB2.out⟩
    · have HQ := Lib.hid (firstE_end y ls k (by omega) HF.out)
      go_wp2
      try rw [Exit.noGoto_ret]
      go_ret
      exact ⟨by rw [HQ.out]; rfl, HB.out⟩
end Go.Proofs.YtpmlmoclocccoaaDoor.Cm
