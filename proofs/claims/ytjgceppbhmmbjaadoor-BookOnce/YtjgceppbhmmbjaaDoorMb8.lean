/-
  Texts put together (merge.py): CSums, LTot, LCheck, LRTot, DRefB.
-/
import Derived.Deep.OwnRows
import Derived.Maps.AppendAt
import Derived.Below
import Derived.Test.YtjgceppbhmmbjaaDoorMb1
import Derived.Test.YtjgceppbhmmbjaaDoorMb7
import Derived.Test.YtjgceppbhmmbjaaDoorMb6
/-
  What cents.Sum and its reference answer, as contracts: for every list of int64.
-/
section
namespace Go.Proofs.YtjgceppbhmmbjaaDoor.Ce
open Go.RowKit

set_option maxHeartbeats 400000 in
theorem allGood_row (a : Option Addr) (len cap : Nat) (f : Nat → Int) (w : World) (hm : len ≤ 9223372036854775807) (hc : ∀ i, i < len → ∃ b off, a = some ⟨b, off, none⟩ ∧ w.cell? ⟨b, off + i, none⟩ = some (.int .i64 (f i))) :
    Calls Tryd.prog 60 #[.slice a len cap] w fun e w' => e = .returned (.bool (allG f len)) ∧ w' = w := by
  go_enter Tryd.func60, Tryd.ntmps60
  go_wp2
  go_loop [6] (fun i => ∃ k : Nat, k ≤ len ∧ i = .int .i64 k ∧ Hid (allG f k = true)) (fun i => len - (intOf i).toNat)
  case atStart => exact ⟨0, Nat.zero_le _, rfl, rfl⟩
  case round =>
    obtain ⟨k, hk, rfl, hg⟩ := hrel
    by_cases hlt : k < len
    · obtain ⟨b, off, rfl, hcell⟩ := hc k hlt
      cases gk : good (f k)
      · go_wp2_with (go_at_call 58; refine (good_any _ _).mono ?_; rintro e w' ⟨rfl, rfl⟩)
        go_ret
        exact ⟨by rw [allG_not f len k hlt gk]; rfl, rfl⟩
      · go_wp2_with (go_at_call 58; refine (good_any _ _).mono ?_; rintro e w' ⟨rfl, rfl⟩)
        go_round
        case rel => exact ⟨k + 1, by omega, by go_num, allG_more f k hg.out gk⟩
        case measure => simp [intOf]; omega
    · have : k = len := by omega
      subst this
      go_wp2
      go_ret
      exact ⟨by rw [hg.out]; rfl, rfl⟩

set_option maxHeartbeats 400000 in
theorem sum_row (a : Option Addr) (len cap : Nat) (f : Nat → Int) (w : World) (hm : len ≤ 9223372036854775807) (hc : ∀ i, i < len → ∃ b off, a = some ⟨b, off, none⟩ ∧ w.cell? ⟨b, off + i, none⟩ = some (.int .i64 (f i))) :
    Calls Tryd.prog 51 #[.slice a len cap] w fun e w' => e = .returned (.tuple #[.int .i64 (sumV f len), .int .i64 (sumE f len)]) ∧ w' = w := by
  cases g : allG f len
  · go_enter Tryd.func51, Tryd.ntmps51
    go_wp2_with (go_at_call 60; refine (allGood_row a len cap f _ hm hc).mono ?_; rintro e w' ⟨rfl, rfl⟩)
    go_ret2
    exact ⟨by rw [(sum_arg f len g).1, (sum_arg f len g).2]; rfl, rfl⟩
  · go_enter Tryd.func51, Tryd.ntmps51
    go_wp2_with (go_at_call 60; refine (allGood_row a len cap f _ hm hc).mono ?_; rintro e w' ⟨rfl, rfl⟩)
    go_loop [4, 12] (fun t i => ∃ k : Nat, k ≤ len ∧ i = .int .i64 k ∧ t = .int .i64 (tot f k) ∧ tot f k ≤ 10000000000000) (fun _ i => len - (intOf i).toNat)
    case atStart => exact ⟨0, Nat.zero_le _, rfl, rfl, by simp [tot]⟩
    case round =>
      obtain ⟨k, hk, rfl, rfl, ht⟩ := hrel
      have t0 := tot_nonneg f len g k hk
      by_cases hlt : k < len
      · obtain ⟨b, off, rfl, hcell⟩ := hc k hlt
        have gk := allG_at f len k hlt g
        have gt : good (tot f k) = true := (good_iff _).2 ⟨t0, ht⟩
        obtain ⟨f0, f1⟩ := (good_iff _).1 gk
        by_cases ho : 10000000000000 < tot f k + f k
        · have gs : good (tot f k + f k) = false := (good_not _).2 (by omega)
          have e1 : addV (tot f k) (f k) = 0 := by simp [addV, gs]
          have e2 : addE (tot f k) (f k) = 2 := by simp [addE, gt, gk, gs]
          go_wp2_with (go_at_call 61; refine (add_any _ _ _).mono ?_; rintro e w' ⟨rfl, rfl⟩)
          go_ret2
          exact ⟨by rw [(sum_over f len k g hlt ho).1, (sum_over f len k g hlt ho).2]; rfl, rfl⟩
        · have gs : good (tot f k + f k) = true := (good_iff _).2 (by omega)
          have e1 : addV (tot f k) (f k) = tot f k + f k := by simp [addV, gt, gk, gs]
          have e2 : addE (tot f k) (f k) = 0 := by simp [addE, gt, gk, gs]
          go_wp2_with (go_at_call 61; refine (add_any _ _ _).mono ?_; rintro e w' ⟨rfl, rfl⟩)
          go_round
          case rel => exact ⟨k + 1, by omega, by go_num, rfl, by simp only [tot]; omega⟩
          case measure => simp [intOf]; omega
      · have : k = len := by omega
        subst this
        go_wp2
        go_ret2
        exact ⟨by rw [(sum_end f k g ht).1, (sum_end f k g ht).2]; rfl, rfl⟩

set_option maxHeartbeats 400000 in
theorem rsum_row (a : Option Addr) (len cap : Nat) (f : Nat → Int) (w : World) (hm : len ≤ 9223372036854775807) (hc : ∀ i, i < len → ∃ b off, a = some ⟨b, off, none⟩ ∧ w.cell? ⟨b, off + i, none⟩ = some (.int .i64 (f i))) :
    Calls Tryd.prog 64 #[.slice a len cap] w fun e w' => e = .returned (.tuple #[.int .i64 (sumV f len), .int .i64 (sumE f len)]) ∧ w' = w := by
  go_enter Tryd.func64, Tryd.ntmps64
  go_wp2
  go_loop [4] (fun i => ∃ k : Nat, k ≤ len ∧ i = .int .i64 k ∧ Hid (allG f k = true)) (fun i => len - (intOf i).toNat)
  case atStart => exact ⟨0, Nat.zero_le _, rfl, rfl⟩
  case round =>
    obtain ⟨k, hk, rfl, hg⟩ := hrel
    by_cases hlt : k < len
    · obtain ⟨b, off, rfl, hcell⟩ := hc k hlt
      cases gk : good (f k)
      · go_wp2_with (go_at_call 63; refine (rgood_any _ _).mono ?_; rintro e w' ⟨rfl, rfl⟩)
        go_ret2
        have g := allG_not f len k hlt gk
        exact ⟨by rw [(sum_arg f len g).1, (sum_arg f len g).2]; rfl, rfl⟩
      · go_wp2_with (go_at_call 63; refine (rgood_any _ _).mono ?_; rintro e w' ⟨rfl, rfl⟩)
        go_round
        case rel => exact ⟨k + 1, by omega, by go_num, allG_more f k hg.out gk⟩
        case measure => simp [intOf]; omega
    · have : k = len := by omega
      subst this
      have g := hg.out
      clear hg
      go_wp2
      go_loop [5, 6] (fun t i => ∃ j : Nat, j ≤ k ∧ i = .int .i64 j ∧ t = .int .i64 (tot f j) ∧ tot f j ≤ 10000000000000) (fun _ i => k - (intOf i).toNat)
      case atStart => exact ⟨0, Nat.zero_le _, rfl, rfl, by simp [tot]⟩
      case round =>
        obtain ⟨j, hj, rfl, rfl, ht⟩ := hrel
        have t0 := tot_nonneg f k g j hj
        by_cases hlt : j < k
        · obtain ⟨b, off, rfl, hcell⟩ := hc j hlt
          have gk := allG_at f k j hlt g
          obtain ⟨f0, f1⟩ := (good_iff _).1 gk
          by_cases ho : 10000000000000 < tot f j + f j
          · go_wp2
            go_ret2
            exact ⟨by rw [(sum_over f k j g hlt ho).1, (sum_over f k j g hlt ho).2]; rfl, rfl⟩
          · go_wp2
            go_round
            case rel => exact ⟨j + 1, by omega, by go_num, rfl, by simp only [tot]; omega⟩
            case measure => simp [intOf]; omega
        · have : j = k := by omega
          subst this
          go_wp2
          go_ret2
          exact ⟨by rw [(sum_end f j g ht).1, (sum_end f j g ht).2]; rfl, rfl⟩

end Go.Proofs.YtjgceppbhmmbjaaDoor.Ce
end

/-
  What claim.Total answers, as a contract.
-/
section
set_option linter.unusedSimpArgs false
namespace Go.Proofs.YtjgceppbhmmbjaaDoor.Cm
open Go.RowKit
theorem info2 : (Tryd.prog.info? 2).map (fun i => (i.zero, i.size, i.bytes)) = some (some (.int .i64 0), 1, 8) := by kernel_rfl

set_option maxHeartbeats 1000000 in
theorem total_any (c : Cl) (m : Value) (w : World) (hm : LnsAt All w m c.lines) (hl : c.lines.length ≤ 1000000) :
    Calls Tryd.prog 41 #[clv c m] w fun e w' => e = .returned (.tuple #[.int .i64 (totV c.lines), .int .i64 (totE c.lines)]) ∧ Below w.heap.size w w' := by
  have HM := Lib.hid hm
  have HB := Lib.hid fun o => below_alloc w o
  obtain ⟨a, k, rfl, h1, h2⟩ := LnsAt.form hm
  clear hm
  have HMK := run_make_row' (P := Tryd.prog) 76 2 (.int .i64 0) 8 Tryd.underlying76 info2 rfl .i64 .i64 c.lines.length (by omega) (by omega)
  go_enter Tryd.func41, Tryd.ntmps41
  go_wp2
  go_loopg [16] (c.lines.length) (fun g i wr => ∃ j : Nat, j ≤ c.lines.length ∧ g = c.lines.length - j ∧ i = .int .i64 j ∧ Hid (Below w.heap.size w wr) ∧ Hid (wr.rowIs (w.heap.size + 1) 2 c.lines.length fun q => if q < j then .int .i64 (bil c.lines q) else .int .i64 0))
  case atStart =>
    refine ⟨0, Nat.zero_le _, rfl, rfl, below_trans (HB.out _) (below_alloc _ _), ?_⟩
    show World.rowIs _ _ _ _ _
    have := World.rowIs_made (w.alloc (.cells #[.string (mk c.id), .string (mk c.mem), .string (mk c.fam), .int .i64 c.net, .int .i64 c.does, .string (mk c.ref), .slice a c.lines.length k] 25)) (.int .i64 0) c.lines.length 2
    rw [World.size_alloc] at this
    exact this.congr fun q hq => by simp
  case round =>
    obtain ⟨j, hj, hg, rfl, HB2, HR⟩ := hrel
    by_cases hlt : j < c.lines.length
    · have hL := LnsAt.move HM.out (Below.moves HB2.out)
      obtain ⟨b, o, m, rfl, hx, ⟨c0, c1, c2, c3, c4, c5⟩, hr⟩ := LnsAt.get hL j hlt
      obtain ⟨am, cm, rfl, -, -⟩ := TxAt.form hr
      have hbl := World.block_lt_of_cell? wr _ c0
      have hrc := HR.out.cell hlt
      have hrf := HR.out.frozen j
      have hrl := HR.out.lt
      have hne : w.heap.size + 1 ≠ wr.heap.size := Nat.ne_of_lt hrl
      have hbj := bil_at c.lines j _ hx
      have HX : Hid (∀ o1 v, v = .int .i64 (bil c.lines j) → Below w.heap.size w ((wr.setCell ⟨w.heap.size + 1, j, none⟩ v).alloc o1) ∧ ((wr.setCell ⟨w.heap.size + 1, j, none⟩ v).alloc o1).rowIs (w.heap.size + 1) 2 c.lines.length fun q => if q < j + 1 then .int .i64 (bil c.lines q) else .int .i64 0) := fun o1 v hv => by
        refine ⟨below_trans (HB2.out.setCell (p := ⟨w.heap.size + 1, j, none⟩) (by simp) v) (below_alloc _ o1), ?_⟩
        refine ((HR.out.set j v).alloc o1).congr fun q hq => ?_
        rw [hv]
        by_cases e : q = j
        · subst e; simp
        · by_cases e2 : q < j
          · simp [e, e2, Nat.lt_succ_of_lt e2]
          · simp [e, e2, show ¬ q < j + 1 by omega]
      rw [← hbj] at c4
      clear hx hr hL hbj
      have hrc2 : ∀ o1, (wr.alloc o1).cell? ⟨w.heap.size + 1, j, none⟩ = some (.int .i64 0) := fun o1 => by
        rw [(HR.out.alloc o1).cell hlt]; simp
      have hrf2 : ∀ o1, (wr.alloc o1).frozen? ⟨w.heap.size + 1, j, none⟩ = false := fun o1 => (HR.out.alloc o1).frozen j
      go_wp2
      go_roundg (c.lines.length - (j + 1))
      case rel => exact ⟨j + 1, by omega, rfl, by go_num, (HX.out _ _ rfl).1, (HX.out _ _ rfl).2⟩
      case measure => omega
    · have hjj : j = c.lines.length := by omega
      have HS := Lib.hid (Ce.sum_row (some ⟨w.heap.size + 1, 0, none⟩) c.lines.length c.lines.length (bil c.lines) wr (by omega) (fun i hi => ⟨w.heap.size + 1, 0, rfl, by
        rw [Nat.zero_add, HR.out.cell hi]
        simp [show i < j by omega]⟩))
      clear hjj
      have HV : Hid (totV c.lines = if Ce.sumE (bil c.lines) c.lines.length = 0 then Ce.sumV (bil c.lines) c.lines.length else 0) := rfl
      have HE : Hid (totE c.lines = if Ce.sumE (bil c.lines) c.lines.length = 0 then 0 else 8) := rfl
      generalize Ce.sumE (bil c.lines) c.lines.length = E at *
      generalize Ce.sumV (bil c.lines) c.lines.length = V at *
      by_cases he : E = 0
      · rw [if_pos he] at HV HE
        obtain rfl := he
        go_wp2_with (go_at_call 51; refine (HS.out).mono ?_; rintro e w' ⟨rfl, rfl⟩)
        go_ret2
        exact ⟨by rw [HV.out, HE.out]; rfl, HB2.out⟩
      · rw [if_neg he] at HV HE
        have hb : (E != 0) = true := by simpa using he
        go_wp2_with (go_at_call 51; refine (HS.out).mono ?_; rintro e w' ⟨rfl, rfl⟩)
        go_ret2
        exact ⟨by rw [HV.out, HE.out]; rfl, HB2.out⟩
end Go.Proofs.YtjgceppbhmmbjaaDoor.Cm
end

/-
  What claim.Check and Batch answer, as contracts.
-/
section
set_option linter.unusedSimpArgs false
namespace Go.Proofs.YtjgceppbhmmbjaaDoor.Cm
open Go.RowKit

abbrev boxc (c : Cl) (m : Value) : Obj := .cells #[.string (mk c.id), .string (mk c.mem), .string (mk c.fam), .int .i64 c.net, .int .i64 c.does, .string (mk c.ref), m] 25
theorem slice_of {m : Value} {a : Option Addr} {n c : Nat} (h : m = .slice a n c) : ∃ a n k, m = .slice a n k := ⟨a, n, c, h⟩
theorem rest10 {c : Cl} (h : ¬ c.lines.length ≤ 999) : restE c = 10 := by unfold restE; rw [if_neg h]
theorem rest6 {c : Cl} (h : c.lines.length ≤ 999) (h1 : voidB c = false) : restE c = 6 := by unfold restE; rw [if_pos h, h1]; simp
theorem restL {c : Cl} (h : c.lines.length ≤ 999) (h1 : voidB c = true) (h2 : linesE c.lines ≠ 0) : restE c = linesE c.lines := by unfold restE; rw [if_pos h, if_pos h1, if_neg h2]
theorem restT {c : Cl} (h : c.lines.length ≤ 999) (h1 : voidB c = true) (h2 : linesE c.lines = 0) : restE c = totE c.lines := by unfold restE; rw [if_pos h, if_pos h1, if_pos h2]

set_option maxHeartbeats 2000000 in
theorem check_any (c : Cl) (m : Value) (w : World) (hm : LnsAt All w m c.lines) (hz : ClOk c) (hT : Da.Tab w) :
    Calls Tryd.prog 30 #[clv c m] w fun e w' => e = .returned (.int .i64 (checkE c)) ∧ Below w.heap.size w w' := by
  obtain ⟨a, k, hsl, f1, f2⟩ := LnsAt.form hm
  have HH := Lib.hid fun w => head_any c m w (slice_of hsl) hz.short
  have HB := Lib.hid fun o => below_alloc w o
  have HBX : Hid (∀ w', Below (w.alloc (boxc c m)).heap.size (w.alloc (boxc c m)) w' → ClBox w' w.heap.size c m ∧ Below w.heap.size w w') := fun w' hb => ⟨(ClBox.new w c m _).grw hb, below_trans (below_alloc w _) hb⟩
  have HL := Lib.hid fun w' (hb : Below w.heap.size w w') => lines_any m c.lines w' (LnsAt.move hm (Below.moves hb)) hz.2.2.2.2.2.2.2 (tab_below hT hb)
  have HTT := Lib.hid fun w' (hb : Below w.heap.size w w') (hl : c.lines.length ≤ 999) => total_any c m w' (LnsAt.move hm (Below.moves hb)) (by omega)
  obtain rfl := hsl
  clear hm hz hT
  by_cases h0 : headE c = 0
  case neg =>
    have hE : checkE c = headE c := by unfold checkE; rw [if_neg h0]
    have hb : (headE c != 0) = true := by simpa using h0
    rw [hE]
    clear hE h0 HL HTT
    generalize headE c = E at *
    go_enter Tryd.func30, Tryd.ntmps30
    go_wp2_with (first | (go_at_call 39; refine (HH.out _).mono ?_; rintro e w1 ⟨rfl, hb⟩; have HB1 := Lib.hid (HBX.out _ hb).2; clear hb))
    go_ret
    exact ⟨rfl, HB1.out⟩
  have hE : checkE c = restE c := by unfold checkE; rw [if_pos h0]
  rw [h0] at HH
  rw [hE]
  clear hE h0
  have H10 := Lib.hid (@rest10 c)
  have H6 := Lib.hid (@rest6 c)
  have HLL := Lib.hid (@restL c)
  have HLT := Lib.hid (@restT c)
  unfold voidB at H6 HLL HLT
  generalize restE c = R at *
  generalize linesE c.lines = LE at *
  generalize totE c.lines = TE at *
  generalize totV c.lines = TV at *
  by_cases h1 : c.lines.length ≤ 999
  case neg =>
    have h1' : (999 : Int) < (c.lines.length : Int) := by omega
    rw [H10.out h1]
    clear H10 H6 HLL HLT HL HTT
    go_enter Tryd.func30, Tryd.ntmps30
    go_wp2_with (first | (go_at_call 39; refine (HH.out _).mono ?_; rintro e w1 ⟨rfl, hb⟩; obtain ⟨⟨n0, n1, n2, n3, n4, n5, n6⟩, hb2⟩ := HBX.out _ hb; have HB1 := Lib.hid hb2; clear hb hb2))
    go_ret
    exact ⟨rfl, HB1.out⟩
  have h1' : ¬ (999 : Int) < (c.lines.length : Int) := by omega
  have e8 : (c.does == 8) = decide (c.does = 8) := by rw [Bool.eq_iff_iff]; simp
  have el : ((c.lines.length : Int) == 0) = decide (c.lines.length = 0) := by rw [Bool.eq_iff_iff]; simp
  obtain ⟨V, hV⟩ : ∃ V, V = decide (c.does = 8) := ⟨_, rfl⟩
  obtain ⟨Z, hZ⟩ : ∃ Z, Z = decide (c.lines.length = 0) := ⟨_, rfl⟩
  rw [← hV] at e8
  rw [← hZ] at el
  rw [← hV, ← hZ] at H6 HLL HLT
  clear hV hZ
  cases hq : (V == Z)
  · rw [H6.out h1 hq]
    have hv : (V != Z) = true := by unfold bne; rw [hq]; rfl
    clear H10 H6 HLL HLT HL HTT
    go_enter Tryd.func30, Tryd.ntmps30
    go_wp2_with (first | (go_at_call 39; refine (HH.out _).mono ?_; rintro e w1 ⟨rfl, hb⟩; obtain ⟨⟨n0, n1, n2, n3, n4, n5, n6⟩, hb2⟩ := HBX.out _ hb; have HB1 := Lib.hid hb2; clear hb hb2))
    go_ret
    exact ⟨rfl, HB1.out⟩
  have hv : (V != Z) = false := by unfold bne; rw [hq]; rfl
  by_cases h2 : LE = 0
  · rw [HLT.out h1 hq h2]
    have HT2 := Lib.hid fun w' hb => HTT.out w' hb h1
    obtain rfl := h2
    clear H10 H6 HLL HLT HTT
    go_enter Tryd.func30, Tryd.ntmps30
    go_wp2_with (first | (go_at_call 39; refine (HH.out _).mono ?_; rintro e w1 ⟨rfl, hb⟩; obtain ⟨⟨n0, n1, n2, n3, n4, n5, n6⟩, hb2⟩ := HBX.out _ hb; have HB1 := Lib.hid hb2; have HBa := Lib.hid hb; clear hb hb2) | (go_at_call 40; refine (HL.out _ HB1.out).mono ?_; rintro e w2 ⟨rfl, hb⟩; obtain ⟨⟨q0, q1, q2, q3, q4, q5, q6⟩, hb2⟩ := HBX.out _ (below_trans HBa.out hb); have HB2 := Lib.hid hb2; clear hb hb2) | (go_at_call 41; refine (HT2.out _ HB2.out).mono ?_; rintro e w3 ⟨rfl, hb⟩; have HB3 := Lib.hid (below_trans HB2.out hb); clear hb))
    go_ret
    exact ⟨rfl, HB3.out⟩
  · rw [HLL.out h1 hq h2]
    have hb0 : (LE != 0) = true := by simpa using h2
    clear H10 H6 HLL HLT HTT h2
    go_enter Tryd.func30, Tryd.ntmps30
    go_wp2_with (first | (go_at_call 39; refine (HH.out _).mono ?_; rintro e w1 ⟨rfl, hb⟩; obtain ⟨⟨n0, n1, n2, n3, n4, n5, n6⟩, hb2⟩ := HBX.out _ hb; have HB1 := Lib.hid hb2; have HBa := Lib.hid hb; clear hb hb2) | (go_at_call 40; refine (HL.out _ HB1.out).mono ?_; rintro e w2 ⟨rfl, hb⟩; have HB2 := Lib.hid (below_trans HB1.out hb); clear hb))
    go_ret
    exact ⟨rfl, HB2.out⟩

/-- A batch in a box. -/
def BtBox (w : World) (b : Nat) (n : Int) (m : Value) : Prop := w.cell? ⟨b, 0, none⟩ = some (.int .i64 n) ∧ w.cell? ⟨b, 1, none⟩ = some m
abbrev btv (n : Int) (m : Value) : Value := .agg #[.int .i64 n, m]
end Go.Proofs.YtjgceppbhmmbjaaDoor.Cm
end

/-
  What the reference's Total answers, as a contract.
-/
section
set_option linter.unusedSimpArgs false
namespace Go.Proofs.YtjgceppbhmmbjaaDoor.Cm
open Go.RowKit

theorem own_form {w : World} {B : Nat} {e : TypeId} {v : Value} {n : Nat} {xs : List Value} (h : w.ownsRow B e 1 v n xs) : ∃ a c, v = .slice a n c := by
  rcases h.2 with ⟨rfl, rfl⟩ | ⟨g, c, cur, rfl, _⟩
  · exact ⟨_, _, rfl⟩
  · exact ⟨_, _, rfl⟩
theorem infoI : ∃ i, Tryd.prog.info? 2 = some i ∧ i.zero = some (.int .i64 0) ∧ i.size = 1 ∧ i.bytes = 8 := by
  have hi := info2
  cases hq : Tryd.prog.info? 2 with
  | none => rw [hq] at hi; cases hi
  | some i =>
    rw [hq] at hi
    simp only [Option.map_some, Option.some.injEq, Prod.mk.injEq] at hi
    exact ⟨i, rfl, hi⟩
def bils (ls : List Ln) (j : Nat) : List Value := (List.range j).map fun q => .int .i64 (bil ls q)
theorem bils_snoc (ls : List Ln) (j : Nat) : bils ls (j + 1) = bils ls j ++ [.int .i64 (bil ls j)] := by unfold bils; rw [List.range_succ, List.map_append]; rfl
theorem own_cells {w : World} {B : Nat} {e : TypeId} {a : Option Addr} {n c : Nat} {ls : List Ln} (h : w.ownsRow B e 1 (.slice a n c) n (bils ls n)) : ∀ i, i < n → ∃ b off, a = some ⟨b, off, none⟩ ∧ w.cell? ⟨b, off + i, none⟩ = some (.int .i64 (bil ls i)) := by
  intro i hi
  rcases h.2 with ⟨_, rfl⟩ | ⟨g, cap, cur, he, _, hg, h1, h2, hs, ht⟩
  · omega
  · injection he with e1 e2 e3
    subst e1
    refine ⟨g, 0, rfl, ?_⟩
    rw [Nat.zero_add, cell_of_row w g i cur e (0, 0) hg]
    have hu : (bils ls n)[i]? = some (.int .i64 (bil ls i)) := by unfold bils; rw [List.getElem?_map, List.getElem?_range hi]; rfl
    rw [← ht, List.getElem?_take] at hu
    split at hu
    · simpa using hu
    · cases hu

set_option maxHeartbeats 2000000 in
theorem rtotal_any (c : Cl) (m : Value) (w : World) (hm : LnsAt All w m c.lines) (hl : c.lines.length ≤ 1000000) :
    Calls Tryd.prog 53 #[clv c m] w fun e w' => e = .returned (.tuple #[.int .i64 (totV c.lines), .int .i64 (totE c.lines)]) ∧ Below w.heap.size w w' := by
  have HM := Lib.hid hm
  have HBX : Hid (∀ w', Below (w.heap.size + 1) (w.alloc (boxc c m)) w' → ClBox w' w.heap.size c m ∧ Below w.heap.size w w') := fun w' hb => by
    have hb' : Below (w.alloc (boxc c m)).heap.size (w.alloc (boxc c m)) w' := by rw [show (w.alloc (boxc c m)).heap.size = w.heap.size + 1 from by simp]; exact hb
    exact ⟨(ClBox.new w c m _).grw hb', below_trans (below_alloc w _) hb'⟩
  obtain ⟨a, k, rfl, h1, h2⟩ := LnsAt.form hm
  obtain ⟨i2, r1, r2, r3, r4⟩ := infoI
  clear hm
  go_enter Tryd.func53, Tryd.ntmps53
  go_wp2
  go_loopg [4, 5] (c.lines.length) (fun g lv i wr => ∃ j : Nat, j ≤ c.lines.length ∧ g = c.lines.length - j ∧ i = .int .i64 j ∧ Hid (Below (w.heap.size + 1) (w.alloc (boxc c (.slice a c.lines.length k))) wr) ∧ Hid (wr.ownsRow (w.heap.size + 1) 2 1 lv j (bils c.lines j)))
  case atStart => exact ⟨0, Nat.zero_le _, rfl, rfl, Below.refl _ _, World.ownsRow_nil _ _ _ _⟩
  case round =>
    obtain ⟨j, hj, hg, rfl, HB, HO⟩ := hrel
    obtain ⟨⟨x0, x1, x2, x3, x4, x5, x6⟩, hbw⟩ := HBX.out _ HB.out
    have HBW := Lib.hid hbw
    obtain ⟨la, lc, rfl⟩ := own_form HO.out
    by_cases hlt : j < c.lines.length
    · have hL := LnsAt.move HM.out (Below.moves hbw)
      obtain ⟨b, o, m, rfl, hx, ⟨c0, c1, c2, c3, c4, c5⟩, hr⟩ := LnsAt.get hL j hlt
      have hbj := bil_at c.lines j _ hx
      rw [← hbj] at c4
      have hsz := HB.out.size
      rw [show (w.alloc (boxc c (.slice (some ⟨b, o, none⟩) c.lines.length k))).heap.size = w.heap.size + 1 from by simp] at hsz
      have HSZ := Lib.hid hsz
      clear hx hr hL hbj hbw hsz
      have HOP : Hid ((wr.alloc (.cells #[.int .i64 (bil c.lines j)] 2)).ownsRow (w.heap.size + 1) 2 1 (.slice la j lc) j (bils c.lines j)) := HO.out.alloc _
      go_wp2_with (at_builtin; refine wpList_append_own_at _ (by rfl) _ _ 76 (by rfl) (w.heap.size + 1) 2 i2 (.int .i64 0) 1 8 Tryd.underlying76 r1 r2 r3 r4 (by rfl) (by omega) (.slice la j lc) j (bils c.lines j) (by rfl) HOP.out ⟨wr.heap.size, 0, none⟩ 1 1 [.int .i64 (bil c.lines j)] (by rfl) (by rfl) (cell_one_new wr _ 2) ?c2 ?c3 ?c4 ?c5 ?_)
      case c2 => intro u hu; simp at hu; subst hu; rfl
      case c3 => simp only [maxLen]; omega
      case c4 => omega
      case c5 => have := HSZ.out; simp; omega
      intro v7 w7 hown hgrow hnil hat
      rw [← bils_snoc] at hown
      have HO7 := Lib.hid hown
      have HB7 : Hid (Below (w.heap.size + 1) (w.alloc (boxc c (.slice (some ⟨b, o, none⟩) c.lines.length k))) w7) := by
        have hs := HSZ.out
        exact (HB.out.alloc hs _).grown hgrow (by simp; omega) fun q hq => (HOP.out.lt q hq).1
      obtain ⟨va, vc, rfl⟩ := own_form hown
      clear hown hgrow hnil hat
      go_wp2
      go_roundg (c.lines.length - (j + 1))
      case rel => exact ⟨j + 1, by omega, rfl, by go_num, HB7.out, HO7.out⟩
      case measure => omega
    · have hjj : j = c.lines.length := by omega
      subst hjj
      have HS := Lib.hid (Ce.rsum_row la c.lines.length lc (bil c.lines) wr (by omega) (own_cells HO.out))
      have HV : Hid (totV c.lines = if Ce.sumE (bil c.lines) c.lines.length = 0 then Ce.sumV (bil c.lines) c.lines.length else 0) := rfl
      have HE : Hid (totE c.lines = if Ce.sumE (bil c.lines) c.lines.length = 0 then 0 else 8) := rfl
      generalize Ce.sumE (bil c.lines) c.lines.length = E at *
      generalize Ce.sumV (bil c.lines) c.lines.length = V at *
      by_cases he : E = 0
      · rw [if_pos he] at HV HE
        obtain rfl := he
        go_wp2_with (go_at_call 64; refine (HS.out).mono ?_; rintro e w' ⟨rfl, rfl⟩)
        go_ret2
        exact ⟨by rw [HV.out, HE.out]; rfl, HBW.out⟩
      · rw [if_neg he] at HV HE
        have hb : (E != 0) = true := by simpa using he
        go_wp2_with (go_at_call 64; refine (HS.out).mono ?_; rintro e w' ⟨rfl, rfl⟩)
        go_ret2
        exact ⟨by rw [HV.out, HE.out]; rfl, HBW.out⟩
end Go.Proofs.YtjgceppbhmmbjaaDoor.Cm
end

/-
  What the reference's long and Good answer, as contracts over 'Below' (DRef has them over 'Grown').
-/
section
namespace Go.Proofs.YtjgceppbhmmbjaaDoor.Da
open Go.RowKit

set_option maxHeartbeats 1000000 in
theorem long_b (y m : Int) (w : World) (h : 0 ≤ y) (h1 : 1 ≤ m) (h2 : m ≤ 12) :
    Calls Tryd.prog 67 #[.int .i64 y, .int .i64 m] w fun e w' => e = .returned (.int .i64 (lenM y m)) ∧ Below w.heap.size w w' := by
  rcases month_cases m h1 h2 with rfl | rfl | rfl | rfl | rfl | rfl | rfl | rfl | rfl | rfl | rfl | rfl
  case inr.inl =>
    cases b : leapB y
    · go_enter Tryd.func67, Tryd.ntmps67
      go_wp2_with (go_at_call 69; refine (rleap_any _ _ h).mono ?_; rintro e w' ⟨rfl, rfl⟩)
      go_ret
      exact ⟨by simp [lenM, b, lenT, lens], (Below.refl _ _).alloc (Nat.le_refl _) _⟩
    · go_enter Tryd.func67, Tryd.ntmps67
      go_wp2_with (go_at_call 69; refine (rleap_any _ _ h).mono ?_; rintro e w' ⟨rfl, rfl⟩)
      go_ret
      exact ⟨by simp [lenM, b], (Below.refl _ _).alloc (Nat.le_refl _) _⟩
  all_goals
    go_enter Tryd.func67, Tryd.ntmps67
    go_wp2
    go_ret
    exact ⟨rfl, (Below.refl _ _).alloc (Nat.le_refl _) _⟩

set_option maxHeartbeats 400000 in
theorem rgood_b (n : Int) (w : World) :
    Calls Tryd.prog 62 #[.int .i64 n] w fun e w' => e = .returned (.bool (good n)) ∧ Below w.heap.size w w' := by
  by_cases c1 : n < 10101
  · have g : good n = false := by
      cases g : good n
      · rfl
      · have := good_bd n g; omega
    rw [g]
    go_enter Tryd.func62, Tryd.ntmps62
    go_wp2
    go_ret
    exact ⟨rfl, Below.refl _ _⟩
  by_cases c2 : n > 99991231
  · have g : good n = false := by
      cases g : good n
      · rfl
      · have := good_bd n g; omega
    rw [g]
    go_enter Tryd.func62, Tryd.ntmps62
    go_wp2
    go_ret
    exact ⟨rfl, Below.refl _ _⟩
  have G := good_refn n (by omega) (by omega)
  by_cases c3 : n / 100 % 100 < 1
  · have g : good n = false := G (by omega)
    rw [g]
    clear G
    go_enter Tryd.func62, Tryd.ntmps62
    go_wp2
    go_ret
    exact ⟨rfl, Below.refl _ _⟩
  by_cases c4 : n / 100 % 100 > 12
  · have g : good n = false := G (by omega)
    rw [g]
    clear G
    go_enter Tryd.func62, Tryd.ntmps62
    go_wp2
    go_ret
    exact ⟨rfl, Below.refl _ _⟩
  by_cases c5 : n % 100 ≥ 1
  · by_cases c6 : n % 100 ≤ lenM (n / 10000) (n / 100 % 100)
    · have g : good n = true := (good_ref n (by omega) (by omega)).2 (by omega)
      have d6 : decide (n % 100 ≤ lenM (n / 10000) (n / 100 % 100)) = true := by simpa using c6
      rw [g]
      clear G
      go_enter Tryd.func62, Tryd.ntmps62
      go_wp2_with (go_at_call 67; refine (long_b _ _ _ (by omega) (by omega) (by omega)).mono ?_; rintro e w' ⟨rfl, hg⟩)
      go_ret
      exact ⟨rfl, hg⟩
    · have g : good n = false := G (by omega)
      have d6 : decide (n % 100 ≤ lenM (n / 10000) (n / 100 % 100)) = false := by simpa using c6
      rw [g]
      clear G
      go_enter Tryd.func62, Tryd.ntmps62
      go_wp2_with (go_at_call 67; refine (long_b _ _ _ (by omega) (by omega) (by omega)).mono ?_; rintro e w' ⟨rfl, hg⟩)
      go_ret
      exact ⟨rfl, hg⟩
  · have g : good n = false := G (by omega)
    rw [g]
    clear G
    go_enter Tryd.func62, Tryd.ntmps62
    go_wp2
    go_ret
    exact ⟨rfl, Below.refl _ _⟩

end Go.Proofs.YtjgceppbhmmbjaaDoor.Da
end
