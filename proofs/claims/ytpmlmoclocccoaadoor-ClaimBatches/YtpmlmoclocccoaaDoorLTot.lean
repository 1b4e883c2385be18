/-
  What claim.Total answers, as a contract.
-/
import Derived.Test.YtpmlmoclocccoaaDoorLCode
import Derived.Test.YtpmlmoclocccoaaDoorCSums
import Derived.Deep.OwnRows
set_option linter.unusedSimpArgs false
namespace Go.Proofs.YtpmlmoclocccoaaDoor.Cm
open Go.RowKit
theorem info2 : (Tryd.prog.info? 2).map (fun i => (i.zero, i.size, i.bytes)) = some (some (.int .i64 0), 1, 8) := by kernel_rfl

set_option maxHeartbeats 1000000 in
theorem total_any (c : Cl) (m : Value) (w : World) (hm : LnsAt All w m c.lines) (hl : c.lines.length ≤ 1000000) :
    Calls Tryd.prog 11 #[clv c m] w fun e w' => e = .returned (.tuple #[.int .i64 (totV c.lines), .int .i64 (totE c.lines)]) ∧ Below w.heap.size w w' := by
  have HM := Lib.hid hm
  have HB := Lib.hid fun o => below_alloc w o
  obtain ⟨a, k, rfl, h1, h2⟩ := LnsAt.form hm
  clear hm
  have HMK := run_make_row' (P := Tryd.prog) 48 2 (.int .i64 0) 8 Tryd.underlying48 info2 rfl .i64 .i64 c.lines.length (by omega) (by omega)
  go_enter Tryd.func11, Tryd.ntmps11
  go_wp2
  go_loopg [16] (c.lines.length) (fun g i wr => ∃ j : Nat, j ≤ c.lines.length ∧ g = c.lines.length - j ∧ i = .int .i64 j ∧ Hid (Below w.heap.size w wr) ∧ Hid (wr.rowIs (w.heap.size + 1) 2 c.lines.length fun q => if q < j then .int .i64 (bil c.lines q) else .int .i64 0))
  case atStart =>
    refine ⟨0, Nat.zero_le _, rfl, rfl, below_trans (HB.out _) (below_alloc _ _), ?_⟩
    show World.rowIs _ _ _ _ _
    have := World.rowIs_made (w.alloc (.cells #[.string (mk c.id), .string (mk c.mem), .string (mk c.fam), .int .i64 c.net, .int .i64 c.does, .string (mk c.ref), .slice a c.lines.length k] 24)) (.int .i64 0) c.lines.length 2
    rw [World.size_alloc] at this
    exact this.congr fun q hq => by simp
  case round =>
    obtain ⟨j, hj, hg, rfl, HB2, HR⟩ := hrel
    by_cases hlt : j < c.lines.length
    · have hL := LnsAt.move HM.out (Below.moves HB2.out)
      obtain ⟨b, o, m, rfl, hx, ⟨c0, c1, c2, c3, c4, c5⟩, hr⟩ := LnsAt.get hL j hlt
      obtain ⟨am, cm, rfl, -, -⟩ := TxAt.form hr
      have hbl := World.block_lt_of_cell? wr _ c0
      have hrc := HR.out.cell hlt
      have hrf := HR.out.frozen j
      have hrl := HR.out.lt
      have hne : w.heap.size + 1 ≠ wr.heap.size := Nat.ne_of_lt hrl
      have hbj := bil_at c.lines j _ hx
      have HX : Hid (∀ o1 v, v = .int .i64 (bil c.lines j) → Below w.heap.size w ((wr.setCell ⟨w.heap.size + 1, j, none⟩ v).alloc o1) ∧ ((wr.setCell ⟨w.heap.size + 1, j, none⟩ v).alloc o1).rowIs (w.heap.size + 1) 2 c.lines.length fun q => if q < j + 1 then .int .i64 (bil c.lines q) else .int .i64 0) := fun o1 v hv => by
        refine ⟨below_trans (HB2.out.setCell (p := ⟨w.heap.size + 1, j, none⟩) (by simp) v) (below_alloc _ o1), ?_⟩
        refine ((HR.out.set j v).alloc o1).congr fun q hq => ?_
        rw [hv]
        by_cases e : q = j
        · subst e; simp
        · by_cases e2 : q < j
          · simp [e, e2, Nat.lt_succ_of_lt e2]
          · simp [e, e2, show ¬ q < j + 1 by omega]
      rw [← hbj] at c4
      clear hx hr hL hbj
      have hrc2 : ∀ o1, (wr.alloc o1).cell? ⟨w.heap.size + 1, j, none⟩ = some (.int .i64 0) := fun o1 => by
        rw [(HR.out.alloc o1).cell hlt]; simp
      have hrf2 : ∀ o1, (wr.alloc o1).frozen? ⟨w.heap.size + 1, j, none⟩ = false := fun o1 => (HR.out.alloc o1).frozen j
      go_wp2
      go_roundg (c.lines.length - (j + 1))
      case rel => exact ⟨j + 1, by omega, rfl, by go_num, (HX.out _ _ rfl).1, (HX.out _ _ rfl).2⟩
      case measure => omega
    · have hjj : j = c.lines.length := by omega
      have HS := Lib.hid (Ce.sum_row (some ⟨w.heap.size + 1, 0, none⟩) c.lines.length c.lines.length (bil c.lines) wr (by omega) (fun i hi => ⟨w.heap.size + 1, 0, rfl, by
        rw [Nat.zero_add, HR.out.cell hi]
        simp [show i < j by omega]⟩))
      clear hjj
      have HV : Hid (totV c.lines = if Ce.sumE (bil c.lines) c.lines.length = 0 then Ce.sumV (bil c.lines) c.lines.length else 0) := rfl
      have HE : Hid (totE c.lines = if Ce.sumE (bil c.lines) c.lines.length = 0 then 0 else 8) := rfl
      generalize Ce.sumE (bil c.lines) c.lines.length = E at *
      generalize Ce.sumV (bil c.lines) c.lines.length = V at *
      by_cases he : E = 0
      · rw [if_pos he] at HV HE
        obtain rfl := he
        go_wp2_with (go_at_call 25; refine (HS.out).mono ?_; rintro e w' ⟨rfl, rfl⟩)
        go_ret2
        exact ⟨by rw [HV.out, HE.out]; rfl, HB2.out⟩
      · rw [if_neg he] at HV HE
        have hb : (E != 0) = true := by simpa using he
        go_wp2_with (go_at_call 25; refine (HS.out).mono ?_; rintro e w' ⟨rfl, rfl⟩)
        go_ret2
        exact ⟨by rw [HV.out, HE.out]; rfl, HB2.out⟩
end Go.Proofs.YtpmlmoclocccoaaDoor.Cm
