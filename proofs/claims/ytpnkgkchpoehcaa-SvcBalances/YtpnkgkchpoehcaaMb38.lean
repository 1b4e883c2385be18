/-
  Texts put together (merge.py): LRCheck.
-/
import Derived.Test.YtpnkgkchpoehcaaMb36
import Derived.Test.YtpnkgkchpoehcaaMb37
/-
  What the reference's lines, Check and Batch answer, as contracts.
-/
section
set_option linter.unusedSimpArgs false
namespace Go.Proofs.Ytpnkgkchpoehcaa.Cm
open Go.RowKit

/-- What the reference's lines answers: the services' error, or Total's. -/
def tailE (ls : List Ln) : Int := if linesE ls = 0 then totE ls else linesE ls
theorem tail_bad {ls : List Ln} (h : linesE ls ≠ 0) : tailE ls = linesE ls := by unfold tailE; rw [if_neg h]
theorem tail_ok {ls : List Ln} (h : linesE ls = 0) : tailE ls = totE ls := by unfold tailE; rw [if_pos h]

set_option maxHeartbeats 2000000 in
theorem rlines_any (c : Cl) (m : Value) (w : World) (hm : LnsAt All w m c.lines) (hz : ∀ x ∈ c.lines, LnOk x) (hl : c.lines.length ≤ 1000000) :
    Calls Try.prog 32 #[clv c m] w fun e w' => e = .returned (.int .i64 (tailE c.lines)) ∧ Below w.heap.size w w' := by
  have HV := Lib.hid hm
  have HZ := Lib.hid hz
  have HBX : Hid (∀ w', Below (w.alloc (boxc c m)).heap.size (w.alloc (boxc c m)) w' → ClBox w' w.heap.size c m ∧ Below w.heap.size w w') := fun w' hb => ⟨(ClBox.new w c m _).grw hb, below_trans (below_alloc w _) hb⟩
  have HTT := Lib.hid fun w' (hb : Below w.heap.size w w') => rtotal_any c m w' (LnsAt.move hm (Below.moves hb)) hl
  obtain ⟨a, kc, rfl, h1, h2⟩ := LnsAt.form hm
  clear hm hz hl
  obtain ⟨y, hy⟩ : ∃ y, y = Da.yr (c.lines.getD 0 ln0).date := ⟨_, rfl⟩
  have HBAD : Hid (firstE y c.lines ≠ 0 → tailE c.lines = firstE y c.lines) := fun h => by rw [hy] at h ⊢; exact tail_bad h
  have HOK : Hid (firstE y c.lines = 0 → tailE c.lines = totE c.lines) := fun h => by rw [hy] at h; exact tail_ok h
  have HY := Lib.hid hy
  clear hy
  generalize tailE c.lines = R at *
  generalize totE c.lines = TE at *
  generalize totV c.lines = TV at *
  go_enter Try.func32, Try.ntmps32
  go_wp2
  go_loopg [3] (c.lines.length) (fun g i wr => ∃ k : Nat, k ≤ c.lines.length ∧ g = c.lines.length - k ∧ i = .int .i64 k ∧ Hid (Below (w.alloc (boxc c (.slice a c.lines.length kc))).heap.size (w.alloc (boxc c (.slice a c.lines.length kc))) wr) ∧ Hid (firstE y (c.lines.drop k) = firstE y c.lines))
  case atStart => exact ⟨0, Nat.zero_le _, rfl, rfl, Below.refl _ _, by rfl⟩
  case round =>
    obtain ⟨k, hk, hg, rfl, HB, HF⟩ := hrel
    obtain ⟨⟨x0, x1, x2, x3, x4, x5, x6⟩, hbw⟩ := HBX.out _ HB.out
    have HBW := Lib.hid hbw
    by_cases hlt : k < c.lines.length
    · have hL := LnsAt.move HV.out (Below.moves hbw)
      have hpos : 0 < c.lines.length := by omega
      obtain ⟨b, o, m, rfl, hx, hc, hr⟩ := LnsAt.get hL k hlt
      obtain ⟨b', o', m0, e0, hx0, hc0, -⟩ := LnsAt.get hL 0 hpos
      injection e0 with e0
      injection e0 with e1 e2
      subst e1 e2
      have hzk := HZ.out _ (List.mem_of_getElem? hx)
      have hz0 := HZ.out _ (List.mem_of_getElem? hx0)
      have HC := Lib.hid (rline_any c.lines[k] m wr hr hzk)
      have HX : Hid (∀ w1, Below wr.heap.size wr w1 → w1.cell? ⟨b, o + k * 6 + 2, none⟩ = some (.int .i64 c.lines[k].date) ∧ w1.cell? ⟨b, o + 2, none⟩ = some (.int .i64 c.lines[0].date) ∧ ClBox w1 w.heap.size c (.slice (some ⟨b, o, none⟩) c.lines.length kc)) := fun w1 hb => by
        have hbl := World.block_lt_of_cell? wr _ hc.1
        refine ⟨(hc.of (hb.block _ hbl)).2.2.1, ?_, (HBX.out _ (below_trans HB.out hb)).1⟩
        have := (hc0.of (hb.block _ hbl)).2.2.1
        simpa using this
      obtain ⟨c0, c1, c2, c3, c4, c5⟩ := hc
      obtain ⟨am, cm, rfl, -, -⟩ := TxAt.form hr
      have HFB := Lib.hid (firstE_bad y c.lines k _ hx HF.out)
      have HYR := Lib.hid (firstE_yr y c.lines k _ hx HF.out)
      have HST := Lib.hid (firstE_step y c.lines k _ hx HF.out)
      by_cases he : lineE c.lines[k] = 0
      · have hy0 : y = Da.yr c.lines[0].date := by rw [HY.out, List.getD_eq_getElem?_getD, hx0]; rfl
        obtain ⟨q1, q2⟩ := Da.quo_bd c.lines[k].date 10000 hzk.1.1 hzk.1.2 (by omega)
        obtain ⟨q3, q4⟩ := Da.quo_bd c.lines[0].date 10000 hz0.1.1 hz0.1.2 (by omega)
        rw [he] at HC
        clear hx hx0 hr hL hzk hz0 hc0 HFB hbw
        by_cases hyy : Da.yr c.lines[k].date = y
        · have HQ := Lib.hid (HST.out he hyy)
          have hbe : (c.lines[k].date.tdiv 10000 != c.lines[0].date.tdiv 10000) = false := by
            rw [hy0] at hyy
            unfold Da.yr at hyy
            rw [hyy]; simp
          clear hyy he hy0
          go_wp2_with (first | (go_at_call 43; refine (HC.out).mono ?_; rintro e w1 ⟨rfl, hb⟩; obtain ⟨n1, n2, g0, g1, g2, g3, g4, g5, g6⟩ := HX.out _ hb; have HB2 := Lib.hid (below_trans HB.out hb); clear hb))
          go_quiet (fail)
          go_wp2
          go_roundg (c.lines.length - (k + 1))
          case rel => exact ⟨k + 1, by omega, rfl, by go_num, below_trans HB2.out (below_drewq ⟨_, rfl⟩), HQ.out⟩
          case measure => omega
        · have HQ := Lib.hid (HYR.out he hyy)
          have HQ2 := Lib.hid (HBAD.out (by rw [HQ.out]; omega))
          have hbe : (c.lines[k].date.tdiv 10000 != c.lines[0].date.tdiv 10000) = true := by
            rw [hy0] at hyy
            unfold Da.yr at hyy
            simpa using hyy
          clear hyy he hy0
          go_wp2_with (first | (go_at_call 43; refine (HC.out).mono ?_; rintro e w1 ⟨rfl, hb⟩; obtain ⟨n1, n2, g0, g1, g2, g3, g4, g5, g6⟩ := HX.out _ hb; have HB2 := Lib.hid (below_trans HBW.out hb); clear hb))
          go_quiet (fail)
          go_wp2
          go_ret
          exact ⟨by rw [HQ2.out, HQ.out]; rfl, below_trans HB2.out (below_drewq ⟨_, rfl⟩)⟩
      · have HQ := Lib.hid (HFB.out he)
        have HQ2 := Lib.hid (HBAD.out (by rw [HQ.out]; exact he))
        have hbe : (lineE c.lines[k] != 0) = true := by simpa using he
        clear hx hx0 hr hL hzk hz0 hc0 HFB he HX hbw
        go_wp2_with (first | (go_at_call 43; refine (HC.out).mono ?_; rintro e w1 ⟨rfl, hb⟩; have HB2 := Lib.hid (below_trans HBW.out hb); clear hb))
        go_ret
        exact ⟨by rw [HQ2.out, HQ.out]; rfl, HB2.out⟩
    · have HQ := Lib.hid (HOK.out (firstE_end y c.lines k (by omega) HF.out))
      clear hbw
      go_wp2_with (first | (go_at_call 44; refine (HTT.out _ HBW.out).mono ?_; rintro e w1 ⟨rfl, hb⟩; have HB2 := Lib.hid (below_trans HBW.out hb); clear hb))
      go_ret
      exact ⟨by rw [HQ.out]; rfl, HB2.out⟩
end Go.Proofs.Ytpnkgkchpoehcaa.Cm
end
