/-
  Texts put together (merge.py): LTot, LCheck, LSame, LRSame.
-/
import Derived.Deep.OwnRows
import Derived.Test.YtpmnepihaljamaaGreatDoorM4
import Derived.Test.YtpmnepihaljamaaGreatDoorM5
/-
  What claim.Total answers, as a contract.
-/
section
set_option linter.unusedSimpArgs false
namespace Go.Proofs.YtpmnepihaljamaaGreatDoor.Cm
open Go.RowKit
theorem info2 : (Tryz.prog.info? 2).map (fun i => (i.zero, i.size, i.bytes)) = some (some (.int .i64 0), 1, 8) := by kernel_rfl

set_option maxHeartbeats 1000000 in
theorem total_any (c : Cl) (m : Value) (w : World) (hm : LnsAt All w m c.lines) (hl : c.lines.length ≤ 1000000) :
    Calls Tryz.prog 42 #[clv c m] w fun e w' => e = .returned (.tuple #[.int .i64 (totV c.lines), .int .i64 (totE c.lines)]) ∧ Below w.heap.size w w' := by
  have HM := Lib.hid hm
  have HB := Lib.hid fun o => below_alloc w o
  obtain ⟨a, k, rfl, h1, h2⟩ := LnsAt.form hm
  clear hm
  have HMK := run_make_row' (P := Tryz.prog) 100 2 (.int .i64 0) 8 Tryz.underlying100 info2 rfl .i64 .i64 c.lines.length (by omega) (by omega)
  go_enter Tryz.func42, Tryz.ntmps42
  go_wp2
  go_loopg [16] (c.lines.length) (fun g i wr => ∃ j : Nat, j ≤ c.lines.length ∧ g = c.lines.length - j ∧ i = .int .i64 j ∧ Hid (Below w.heap.size w wr) ∧ Hid (wr.rowIs (w.heap.size + 1) 2 c.lines.length fun q => if q < j then .int .i64 (bil c.lines q) else .int .i64 0))
  case atStart =>
    refine ⟨0, Nat.zero_le _, rfl, rfl, below_trans (HB.out _) (below_alloc _ _), ?_⟩
    show World.rowIs _ _ _ _ _
    have := World.rowIs_made (w.alloc (.cells #[.string (mk c.id), .string (mk c.mem), .string (mk c.fam), .int .i64 c.net, .int .i64 c.does, .string (mk c.ref), .slice a c.lines.length k] 43)) (.int .i64 0) c.lines.length 2
    rw [World.size_alloc] at this
    exact this.congr fun q hq => by simp
  case round =>
    obtain ⟨j, hj, hg, rfl, HB2, HR⟩ := hrel
    by_cases hlt : j < c.lines.length
    · have hL := LnsAt.move HM.out (Below.moves HB2.out)
      obtain ⟨b, o, m, rfl, hx, ⟨c0, c1, c2, c3, c4, c5⟩, hr⟩ := LnsAt.get hL j hlt
      obtain ⟨am, cm, rfl, -, -⟩ := TxAt.form hr
      have hbl := World.block_lt_of_cell? wr _ c0
      have hrc := HR.out.cell hlt
      have hrf := HR.out.frozen j
      have hrl := HR.out.lt
      have hne : w.heap.size + 1 ≠ wr.heap.size := Nat.ne_of_lt hrl
      have hbj := bil_at c.lines j _ hx
      have HX : Hid (∀ o1 v, v = .int .i64 (bil c.lines j) → Below w.heap.size w ((wr.setCell ⟨w.heap.size + 1, j, none⟩ v).alloc o1) ∧ ((wr.setCell ⟨w.heap.size + 1, j, none⟩ v).alloc o1).rowIs (w.heap.size + 1) 2 c.lines.length fun q => if q < j + 1 then .int .i64 (bil c.lines q) else .int .i64 0) := fun o1 v hv => by
        refine ⟨below_trans (HB2.out.setCell (p := ⟨w.heap.size + 1, j, none⟩) (by simp) v) (below_alloc _ o1), ?_⟩
        refine ((HR.out.set j v).alloc o1).congr fun q hq => ?_
        rw [hv]
        by_cases e : q = j
        · subst e; simp
        · by_cases e2 : q < j
          · simp [e, e2, Nat.lt_succ_of_lt e2]
          · simp [e, e2, show ¬ q < j + 1 by omega]
      rw [← hbj] at c4
      clear hx hr hL hbj
      have hrc2 : ∀ o1, (wr.alloc o1).cell? ⟨w.heap.size + 1, j, none⟩ = some (.int .i64 0) := fun o1 => by
        rw [(HR.out.alloc o1).cell hlt]; simp
      have hrf2 : ∀ o1, (wr.alloc o1).frozen? ⟨w.heap.size + 1, j, none⟩ = false := fun o1 => (HR.out.alloc o1).frozen j
      go_wp2
      go_roundg (c.lines.length - (j + 1))
      case rel => exact ⟨j + 1, by omega, rfl, by go_num, (HX.out _ _ rfl).1, (HX.out _ _ rfl).2⟩
      case measure => omega
    · have hjj : j = c.lines.length := by omega
      have HS := Lib.hid (Ce.sum_row (some ⟨w.heap.size + 1, 0, none⟩) c.lines.length c.lines.length (bil c.lines) wr (by omega) (fun i hi => ⟨w.heap.size + 1, 0, rfl, by
        rw [Nat.zero_add, HR.out.cell hi]
        simp [show i < j by omega]⟩))
      clear hjj
      have HV : Hid (totV c.lines = if Ce.sumE (bil c.lines) c.lines.length = 0 then Ce.sumV (bil c.lines) c.lines.length else 0) := rfl
      have HE : Hid (totE c.lines = if Ce.sumE (bil c.lines) c.lines.length = 0 then 0 else 8) := rfl
      generalize Ce.sumE (bil c.lines) c.lines.length = E at *
      generalize Ce.sumV (bil c.lines) c.lines.length = V at *
      by_cases he : E = 0
      · rw [if_pos he] at HV HE
        obtain rfl := he
        go_wp2_with (go_at_call 78; refine (HS.out).mono ?_; rintro e w' ⟨rfl, rfl⟩)
        go_ret2
        exact ⟨by rw [HV.out, HE.out]; rfl, HB2.out⟩
      · rw [if_neg he] at HV HE
        have hb : (E != 0) = true := by simpa using he
        go_wp2_with (go_at_call 78; refine (HS.out).mono ?_; rintro e w' ⟨rfl, rfl⟩)
        go_ret2
        exact ⟨by rw [HV.out, HE.out]; rfl, HB2.out⟩
end Go.Proofs.YtpmnepihaljamaaGreatDoor.Cm
end

/-
  What claim.Check and Batch answer, as contracts.
-/
section
set_option linter.unusedSimpArgs false
namespace Go.Proofs.YtpmnepihaljamaaGreatDoor.Cm
open Go.RowKit

abbrev boxc (c : Cl) (m : Value) : Obj := .cells #[.string (mk c.id), .string (mk c.mem), .string (mk c.fam), .int .i64 c.net, .int .i64 c.does, .string (mk c.ref), m] 43
theorem slice_of {m : Value} {a : Option Addr} {n c : Nat} (h : m = .slice a n c) : ∃ a n k, m = .slice a n k := ⟨a, n, c, h⟩
theorem rest10 {c : Cl} (h : ¬ c.lines.length ≤ 999) : restE c = 10 := by unfold restE; rw [if_neg h]
theorem rest6 {c : Cl} (h : c.lines.length ≤ 999) (h1 : voidB c = false) : restE c = 6 := by unfold restE; rw [if_pos h, h1]; simp
theorem restL {c : Cl} (h : c.lines.length ≤ 999) (h1 : voidB c = true) (h2 : linesE c.lines ≠ 0) : restE c = linesE c.lines := by unfold restE; rw [if_pos h, if_pos h1, if_neg h2]
theorem restT {c : Cl} (h : c.lines.length ≤ 999) (h1 : voidB c = true) (h2 : linesE c.lines = 0) : restE c = totE c.lines := by unfold restE; rw [if_pos h, if_pos h1, if_pos h2]

set_option maxHeartbeats 2000000 in
theorem check_any (c : Cl) (m : Value) (w : World) (hm : LnsAt All w m c.lines) (hz : ClOk c) (hT : Da.Tab w) :
    Calls Tryz.prog 40 #[clv c m] w fun e w' => e = .returned (.int .i64 (checkE c)) ∧ Below w.heap.size w w' := by
  obtain ⟨a, k, hsl, f1, f2⟩ := LnsAt.form hm
  have HH := Lib.hid fun w => head_any c m w (slice_of hsl) hz.short
  have HB := Lib.hid fun o => below_alloc w o
  have HBX : Hid (∀ w', Below (w.alloc (boxc c m)).heap.size (w.alloc (boxc c m)) w' → ClBox w' w.heap.size c m ∧ Below w.heap.size w w') := fun w' hb => ⟨(ClBox.new w c m _).grw hb, below_trans (below_alloc w _) hb⟩
  have HL := Lib.hid fun w' (hb : Below w.heap.size w w') => lines_any m c.lines w' (LnsAt.move hm (Below.moves hb)) hz.2.2.2.2.2.2.2 (tab_below hT hb)
  have HTT := Lib.hid fun w' (hb : Below w.heap.size w w') (hl : c.lines.length ≤ 999) => total_any c m w' (LnsAt.move hm (Below.moves hb)) (by omega)
  obtain rfl := hsl
  clear hm hz hT
  by_cases h0 : headE c = 0
  case neg =>
    have hE : checkE c = headE c := by unfold checkE; rw [if_neg h0]
    have hb : (headE c != 0) = true := by simpa using h0
    rw [hE]
    clear hE h0 HL HTT
    generalize headE c = E at *
    go_enter Tryz.func40, Tryz.ntmps40
    go_wp2_with (first | (go_at_call 75; refine (HH.out _).mono ?_; rintro e w1 ⟨rfl, hb⟩; have HB1 := Lib.hid (HBX.out _ hb).2; clear hb))
    go_ret
    exact ⟨rfl, HB1.out⟩
  have hE : checkE c = restE c := by unfold checkE; rw [if_pos h0]
  rw [h0] at HH
  rw [hE]
  clear hE h0
  have H10 := Lib.hid (@rest10 c)
  have H6 := Lib.hid (@rest6 c)
  have HLL := Lib.hid (@restL c)
  have HLT := Lib.hid (@restT c)
  unfold voidB at H6 HLL HLT
  generalize restE c = R at *
  generalize linesE c.lines = LE at *
  generalize totE c.lines = TE at *
  generalize totV c.lines = TV at *
  by_cases h1 : c.lines.length ≤ 999
  case neg =>
    have h1' : (999 : Int) < (c.lines.length : Int) := by omega
    rw [H10.out h1]
    clear H10 H6 HLL HLT HL HTT
    go_enter Tryz.func40, Tryz.ntmps40
    go_wp2_with (first | (go_at_call 75; refine (HH.out _).mono ?_; rintro e w1 ⟨rfl, hb⟩; obtain ⟨⟨n0, n1, n2, n3, n4, n5, n6⟩, hb2⟩ := HBX.out _ hb; have HB1 := Lib.hid hb2; clear hb hb2))
    go_ret
    exact ⟨rfl, HB1.out⟩
  have h1' : ¬ (999 : Int) < (c.lines.length : Int) := by omega
  have e8 : (c.does == 8) = decide (c.does = 8) := by rw [Bool.eq_iff_iff]; simp
  have el : ((c.lines.length : Int) == 0) = decide (c.lines.length = 0) := by rw [Bool.eq_iff_iff]; simp
  obtain ⟨V, hV⟩ : ∃ V, V = decide (c.does = 8) := ⟨_, rfl⟩
  obtain ⟨Z, hZ⟩ : ∃ Z, Z = decide (c.lines.length = 0) := ⟨_, rfl⟩
  rw [← hV] at e8
  rw [← hZ] at el
  rw [← hV, ← hZ] at H6 HLL HLT
  clear hV hZ
  cases hq : (V == Z)
  · rw [H6.out h1 hq]
    have hv : (V != Z) = true := by unfold bne; rw [hq]; rfl
    clear H10 H6 HLL HLT HL HTT
    go_enter Tryz.func40, Tryz.ntmps40
    go_wp2_with (first | (go_at_call 75; refine (HH.out _).mono ?_; rintro e w1 ⟨rfl, hb⟩; obtain ⟨⟨n0, n1, n2, n3, n4, n5, n6⟩, hb2⟩ := HBX.out _ hb; have HB1 := Lib.hid hb2; clear hb hb2))
    go_ret
    exact ⟨rfl, HB1.out⟩
  have hv : (V != Z) = false := by unfold bne; rw [hq]; rfl
  by_cases h2 : LE = 0
  · rw [HLT.out h1 hq h2]
    have HT2 := Lib.hid fun w' hb => HTT.out w' hb h1
    obtain rfl := h2
    clear H10 H6 HLL HLT HTT
    go_enter Tryz.func40, Tryz.ntmps40
    go_wp2_with (first | (go_at_call 75; refine (HH.out _).mono ?_; rintro e w1 ⟨rfl, hb⟩; obtain ⟨⟨n0, n1, n2, n3, n4, n5, n6⟩, hb2⟩ := HBX.out _ hb; have HB1 := Lib.hid hb2; have HBa := Lib.hid hb; clear hb hb2) | (go_at_call 76; refine (HL.out _ HB1.out).mono ?_; rintro e w2 ⟨rfl, hb⟩; obtain ⟨⟨q0, q1, q2, q3, q4, q5, q6⟩, hb2⟩ := HBX.out _ (below_trans HBa.out hb); have HB2 := Lib.hid hb2; clear hb hb2) | (go_at_call 42; refine (HT2.out _ HB2.out).mono ?_; rintro e w3 ⟨rfl, hb⟩; have HB3 := Lib.hid (below_trans HB2.out hb); clear hb))
    go_ret
    exact ⟨rfl, HB3.out⟩
  · rw [HLL.out h1 hq h2]
    have hb0 : (LE != 0) = true := by simpa using h2
    clear H10 H6 HLL HLT HTT h2
    go_enter Tryz.func40, Tryz.ntmps40
    go_wp2_with (first | (go_at_call 75; refine (HH.out _).mono ?_; rintro e w1 ⟨rfl, hb⟩; obtain ⟨⟨n0, n1, n2, n3, n4, n5, n6⟩, hb2⟩ := HBX.out _ hb; have HB1 := Lib.hid hb2; have HBa := Lib.hid hb; clear hb hb2) | (go_at_call 76; refine (HL.out _ HB1.out).mono ?_; rintro e w2 ⟨rfl, hb⟩; have HB2 := Lib.hid (below_trans HB1.out hb); clear hb))
    go_ret
    exact ⟨rfl, HB2.out⟩

/-- A batch in a box. -/
def BtBox (w : World) (b : Nat) (n : Int) (m : Value) : Prop := w.cell? ⟨b, 0, none⟩ = some (.int .i64 n) ∧ w.cell? ⟨b, 1, none⟩ = some m
abbrev btv (n : Int) (m : Value) : Value := .agg #[.int .i64 n, m]
abbrev boxb (n : Int) (m : Value) : Obj := .cells #[.int .i64 n, m] 26

set_option maxHeartbeats 2000000 in
theorem batch_any (n : Int) (m : Value) (l : List Cl) (w : World) (hm : ClsAt All w m l) (hz : ∀ c ∈ l, ClOk c) (hT : Da.Tab w) :
    Calls Tryz.prog 20 #[btv n m] w fun e w' => e = .returned (.int .i64 (batchE n l)) ∧ Below w.heap.size w w' := by
  have HB := Lib.hid fun o => below_alloc w o
  have HM := Lib.hid hm
  have HZ := Lib.hid hz
  have HT := Lib.hid hT
  obtain ⟨a, k, rfl, f1, f2⟩ := ClsAt.form hm
  clear hm hz hT
  by_cases g1 : n < 0
  · have hE : batchE n l = 3 := by unfold batchE; rw [decide_eq_false (p := 0 ≤ n) (by omega)]; simp
    have d1 : decide (n < 0) = true := decide_eq_true g1
    rw [hE]
    go_enter Tryz.func20, Tryz.ntmps20
    go_wp2
    go_ret
    exact ⟨rfl, HB.out _⟩
  have d1 : decide (n < 0) = false := decide_eq_false g1
  by_cases g2 : 999999999 < n
  · have hE : batchE n l = 3 := by unfold batchE; rw [decide_eq_false (p := n ≤ 999999999) (by omega)]; simp
    have d2 : decide (999999999 < n) = true := decide_eq_true g2
    rw [hE]
    go_enter Tryz.func20, Tryz.ntmps20
    go_wp2
    go_ret
    exact ⟨rfl, HB.out _⟩
  have d2 : decide (999999999 < n) = false := decide_eq_false g2
  have hq : (decide (0 ≤ n) && decide (n ≤ 999999999)) = true := by rw [decide_eq_true (p := 0 ≤ n) (by omega), decide_eq_true (p := n ≤ 999999999) (by omega)]; rfl
  by_cases g3 : l.length ≤ 256
  case neg =>
    have hE : batchE n l = 10 := by unfold batchE; rw [if_pos hq, if_neg g3]
    have g3' : (256 : Int) < (l.length : Int) := by omega
    have d3 : decide ((256 : Int) < (l.length : Int)) = true := decide_eq_true g3'
    rw [hE]
    clear hq
    go_enter Tryz.func20, Tryz.ntmps20
    go_wp2
    go_ret
    exact ⟨rfl, HB.out _⟩
  have hE : batchE n l = firstC l := by unfold batchE; rw [if_pos hq, if_pos g3]
  have g3' : ¬ (256 : Int) < (l.length : Int) := by omega
  have d3 : decide ((256 : Int) < (l.length : Int)) = false := decide_eq_false g3'
  rw [hE]
  clear hq hE
  go_enter Tryz.func20, Tryz.ntmps20
  go_wp2
  go_loopg [23] (l.length) (fun g i wr => ∃ j : Nat, j ≤ l.length ∧ g = l.length - j ∧ i = .int .i64 j ∧ Hid (Below w.heap.size w wr) ∧ Hid (firstC (l.drop j) = firstC l))
  case atStart => exact ⟨0, Nat.zero_le _, rfl, rfl, HB.out _, by rfl⟩
  case round =>
    obtain ⟨j, hj, hg, rfl, HB2, HF⟩ := hrel
    by_cases hlt : j < l.length
    · have hL := ClsAt.move HM.out (Below.moves HB2.out)
      obtain ⟨b, o, m, rfl, hx, ⟨c0, c1, c2, c3, c4, c5, c6⟩, hr⟩ := ClsAt.get hL j hlt
      have hbl := World.block_lt_of_cell? wr _ c0
      have HC := Lib.hid fun o => check_any l[j] m (wr.alloc o) (LnsAt.move hr (Below.moves (below_alloc wr o))) (HZ.out _ (List.mem_of_getElem? hx)) (tab_below (tab_below HT.out HB2.out) (below_alloc wr o))
      have HG : Hid (∀ o w', Below (wr.alloc o).heap.size (wr.alloc o) w' → Below w.heap.size w w') := fun o w' hb => below_trans (below_trans HB2.out (below_alloc wr o)) hb
      have HBD := Lib.hid (firstC_bad l j _ hx HF.out)
      have HST := Lib.hid (firstC_step l j _ hx HF.out)
      obtain ⟨am, cm, rfl, -, -⟩ := LnsAt.form hr
      clear hx hr hL
      by_cases he : checkE l[j] = 0
      · have HQ := Lib.hid (HST.out he)
        rw [he] at HC
        clear he HBD HST
        go_wp2_with (first | (go_at_call 40; refine (HC.out _).mono ?_; rintro e w1 ⟨rfl, hb⟩; have HB3 := Lib.hid (HG.out _ _ hb); clear hb))
        go_roundg (l.length - (j + 1))
        case rel => exact ⟨j + 1, by omega, rfl, by go_num, HB3.out, HQ.out⟩
        case measure => omega
      · have HQ := Lib.hid (HBD.out he)
        have hb0 : (checkE l[j] != 0) = true := by simpa using he
        clear he HBD HST
        go_wp2_with (first | (go_at_call 40; refine (HC.out _).mono ?_; rintro e w1 ⟨rfl, hb⟩; have HB3 := Lib.hid (HG.out _ _ hb); clear hb))
        go_ret
        exact ⟨by rw [HQ.out]; rfl, HB3.out⟩
    · have HQ := Lib.hid (firstC_end l j (by omega) HF.out)
      go_wp2
      go_ret
      exact ⟨by rw [HQ.out]; rfl, HB2.out⟩
end Go.Proofs.YtpmnepihaljamaaGreatDoor.Cm
end

/-
  What slices.EqualFunc (at services, with sameLine) and claim.Same answer, as contracts: whether two claims are the same.
-/
section
set_option linter.unusedSimpArgs false
namespace Go.Proofs.YtpmnepihaljamaaGreatDoor.Cm
open Go.RowKit
open Classical

theorem cl_ne (x y : Cl) (h : decide (x.id = y.id) = false ∨ decide (x.mem = y.mem) = false ∨ decide (x.fam = y.fam) = false ∨ decide (x.net = y.net) = false ∨ decide (x.does = y.does) = false ∨ decide (x.ref = y.ref) = false ∨ decide (x.lines = y.lines) = false) : decide (x = y) = false := by
  rw [decide_eq_false_iff_not]
  rintro rfl
  simp at h
theorem cl_same (x y : Cl) (h1 : decide (x.id = y.id) = true) (h2 : decide (x.mem = y.mem) = true) (h3 : decide (x.fam = y.fam) = true) (h4 : decide (x.net = y.net) = true) (h5 : decide (x.does = y.does) = true) (h6 : decide (x.ref = y.ref) = true) (h7 : decide (x.lines = y.lines) = true) : decide (x = y) = true := by
  rw [decide_eq_true_eq] at *
  obtain ⟨a, b, c, d, e, f, g⟩ := x
  obtain ⟨a', b', c', d', e', f', g'⟩ := y
  simp at h1 h2 h3 h4 h5 h6 h7
  simp [h1, h2, h3, h4, h5, h6, h7]
theorem LnCells.alloc {w : World} {b o : Nat} {x : Ln} {m : Value} (h : LnCells w b o x m) (ob : Obj) : LnCells (w.alloc ob) b o x m := h.of (Below.heap_alloc w ob b (World.block_lt_of_cell? w _ h.1))

end Go.Proofs.YtpmnepihaljamaaGreatDoor.Cm
end

/-
  What the reference's Same answers, as a contract: whether two claims are the same.
-/
section
set_option linter.unusedSimpArgs false
namespace Go.Proofs.YtpmnepihaljamaaGreatDoor.Cm
open Go.RowKit
open Classical

theorem below_drewN (w : World) (q : Nat) : Below w.heap.size w (w.drewN q) := below_drewq ⟨q, rfl⟩

set_option maxHeartbeats 4000000 in
theorem rsame_any (x y : Cl) (m m' : Value) (w : World) (hm : LnsAt All w m x.lines) (hm' : LnsAt All w m' y.lines) :
    Calls Tryz.prog 18 #[clv x m, clv y m'] w fun e w' => e = .returned (.bool (decide (x = y))) ∧ Below w.heap.size w w' := by
  have HG : Hid (∀ o1 o2, Below w.heap.size w ((w.alloc o1).alloc o2)) := fun o1 o2 => below_trans (below_alloc w o1) (below_alloc _ o2)
  have HW := Lib.hid hm
  have HW' := Lib.hid hm'
  have HX : Hid (∀ w1, Below ((w.alloc (boxc x m)).alloc (boxc y m')).heap.size ((w.alloc (boxc x m)).alloc (boxc y m')) w1 → (w1.cell? ⟨w.heap.size, 6, none⟩ = some m ∧ w1.cell? ⟨w.heap.size + 1, 6, none⟩ = some m') ∧ Below w.heap.size w w1) := fun w1 hb => by
    have h1 := (ClBox.new w x m 43).grw (below_trans (below_alloc (w.alloc (boxc x m)) (boxc y m')) hb)
    have h2 := (ClBox.new (w.alloc (boxc x m)) y m' 43).grw hb
    rw [show (w.alloc (boxc x m)).heap.size = w.heap.size + 1 from by simp] at h2
    exact ⟨⟨h1.2.2.2.2.2.2, h2.2.2.2.2.2.2⟩, below_trans (HG.out _ _) hb⟩
  obtain ⟨a, c, rfl, f1, f2⟩ := LnsAt.form hm
  obtain ⟨a', c', rfl, f1', f2'⟩ := LnsAt.form hm'
  clear hm hm'
  have e_id := mk_ne x.id y.id
  have e_mem := mk_ne x.mem y.mem
  have e_fam := mk_ne x.fam y.fam
  have e_net : (x.net == y.net) = decide (x.net = y.net) := by rw [Bool.eq_iff_iff]; simp
  have n_net : (x.net != y.net) = !decide (x.net = y.net) := by rw [Bool.eq_iff_iff]; simp
  have e_does : (x.does == y.does) = decide (x.does = y.does) := by rw [Bool.eq_iff_iff]; simp
  have n_does : (x.does != y.does) = !decide (x.does = y.does) := by rw [Bool.eq_iff_iff]; simp
  have e_ref := mk_ne x.ref y.ref
  cases h_id : decide (x.id = y.id)
  · rw [h_id] at e_id
    have hF : decide (x = y) = false := cl_ne x y (by simp [h_id])
    rw [hF]
    clear hF e_mem e_fam e_net e_does e_ref n_net n_does h_id
    go_enter Tryz.func18, Tryz.ntmps18
    go_wp2
    go_ret
    exact ⟨rfl, HG.out _ _⟩
  rw [h_id] at e_id
  cases h_mem : decide (x.mem = y.mem)
  · rw [h_mem] at e_mem
    have hF : decide (x = y) = false := cl_ne x y (by simp [h_mem])
    rw [hF]
    clear hF e_fam e_net e_does e_ref n_net n_does h_id h_mem
    go_enter Tryz.func18, Tryz.ntmps18
    go_wp2
    go_ret
    exact ⟨rfl, HG.out _ _⟩
  rw [h_mem] at e_mem
  cases h_fam : decide (x.fam = y.fam)
  · rw [h_fam] at e_fam
    have hF : decide (x = y) = false := cl_ne x y (by simp [h_fam])
    rw [hF]
    clear hF e_net e_does e_ref n_net n_does h_id h_mem h_fam
    go_enter Tryz.func18, Tryz.ntmps18
    go_wp2
    go_ret
    exact ⟨rfl, HG.out _ _⟩
  rw [h_fam] at e_fam
  cases h_net : decide (x.net = y.net)
  · rw [h_net] at e_net n_net
    have hF : decide (x = y) = false := cl_ne x y (by simp [h_net])
    rw [hF]
    clear hF e_does e_ref n_does h_id h_mem h_fam h_net
    go_enter Tryz.func18, Tryz.ntmps18
    go_wp2
    go_ret
    exact ⟨rfl, HG.out _ _⟩
  rw [h_net] at e_net n_net
  cases h_does : decide (x.does = y.does)
  · rw [h_does] at e_does n_does
    have hF : decide (x = y) = false := cl_ne x y (by simp [h_does])
    rw [hF]
    clear hF e_ref h_id h_mem h_fam h_net h_does
    go_enter Tryz.func18, Tryz.ntmps18
    go_wp2
    go_ret
    exact ⟨rfl, HG.out _ _⟩
  rw [h_does] at e_does n_does
  cases h_ref : decide (x.ref = y.ref)
  · rw [h_ref] at e_ref
    have hF : decide (x = y) = false := cl_ne x y (by simp [h_ref])
    rw [hF]
    clear hF h_id h_mem h_fam h_net h_does h_ref
    go_enter Tryz.func18, Tryz.ntmps18
    go_wp2
    go_ret
    exact ⟨rfl, HG.out _ _⟩
  rw [h_ref] at e_ref
  have HS : Hid (decide (x.lines = y.lines) = true → decide (x = y) = true) := fun h7 => cl_same x y h_id h_mem h_fam h_net h_does h_ref h7
  have HF : Hid (decide (x.lines = y.lines) = false → decide (x = y) = false) := fun h7 => cl_ne x y (by simp [h7])
  clear h_id h_mem h_fam h_net h_does h_ref
  generalize decide (x = y) = R at *
  by_cases hl : x.lines.length = y.lines.length
  case neg =>
    have hlb : ((x.lines.length : Int) != (y.lines.length : Int)) = true := by simp; omega
    rw [HF.out (lens_ne _ _ hl)]
    clear hl
    go_enter Tryz.func18, Tryz.ntmps18
    go_wp2
    go_ret
    exact ⟨rfl, HG.out _ _⟩
  have hlb : ((x.lines.length : Int) != (y.lines.length : Int)) = false := by rw [hl]; simp
  have HL := Lib.hid hl
  have hl2 : x.lines.length ≤ y.lines.length := by omega
  clear hl
  go_enter Tryz.func18, Tryz.ntmps18
  go_wp2
  go_loopg [5] (x.lines.length) (fun gg i wr => ∃ k : Nat, k ≤ x.lines.length ∧ gg = x.lines.length - k ∧ i = .int .i64 k ∧ Hid (x.lines.take k = y.lines.take k) ∧ Hid (Below ((w.alloc (boxc x (.slice a x.lines.length c))).alloc (boxc y (.slice a' y.lines.length c'))).heap.size ((w.alloc (boxc x (.slice a x.lines.length c))).alloc (boxc y (.slice a' y.lines.length c'))) wr))
  case atStart => exact ⟨0, Nat.zero_le _, rfl, rfl, rfl, Below.refl _ _⟩
  case round =>
    obtain ⟨k, hk, hg, rfl, HA, HB⟩ := hrel
    obtain ⟨⟨x6, y6⟩, hbw⟩ := HX.out _ HB.out
    have HBW := Lib.hid hbw
    by_cases hlt : k < x.lines.length
    · obtain ⟨b, o, m, rfl, hx, hc, hr⟩ := LnsAt.get (LnsAt.move HW.out (Below.moves hbw)) k hlt
      have hlt' : k < y.lines.length := by omega
      obtain ⟨b', o', m', rfl, hx', hc', hr'⟩ := LnsAt.get (LnsAt.move HW'.out (Below.moves hbw)) k hlt'
      have HC := Lib.hid fun w1 (hb : Below wr.heap.size wr w1) => rsameLine_any x.lines[k] y.lines[k] m m' w1 (TxAt.move hr (Below.moves hb)) (TxAt.move hr' (Below.moves hb))
      have HQ := Lib.hid (takes_eq x.lines y.lines k _ _ hx hx' HA.out)
      have HN := Lib.hid (takes_ne x.lines y.lines k _ _ hx hx')
      obtain ⟨au, cu, rfl, -, -⟩ := TxAt.form hr
      obtain ⟨au', cu', rfl, -, -⟩ := TxAt.form hr'
      clear hx hx' hr hr' hbw
      have HSX : Hid (∀ w', Below wr.heap.size wr w' → w'.cell? ⟨w.heap.size, 6, none⟩ = some (.slice (some ⟨b, o, none⟩) x.lines.length c) ∧ w'.cell? ⟨w.heap.size + 1, 6, none⟩ = some (.slice (some ⟨b', o', none⟩) y.lines.length c') ∧ w'.cell? ⟨b, o + k * 6, none⟩ = some (.string (mk x.lines[k].proc)) ∧ w'.cell? ⟨b, o + k * 6 + 1, none⟩ = some (.slice au x.lines[k].mods.length cu) ∧ w'.cell? ⟨b, o + k * 6 + 2, none⟩ = some (.int .i64 x.lines[k].date) ∧ w'.cell? ⟨b, o + k * 6 + 3, none⟩ = some (.int .i64 x.lines[k].units) ∧ w'.cell? ⟨b, o + k * 6 + 4, none⟩ = some (.int .i64 x.lines[k].billed) ∧ w'.cell? ⟨b, o + k * 6 + 5, none⟩ = some (.int .i64 x.lines[k].prior) ∧ w'.cell? ⟨b', o' + k * 6, none⟩ = some (.string (mk y.lines[k].proc)) ∧ w'.cell? ⟨b', o' + k * 6 + 1, none⟩ = some (.slice au' y.lines[k].mods.length cu') ∧ w'.cell? ⟨b', o' + k * 6 + 2, none⟩ = some (.int .i64 y.lines[k].date) ∧ w'.cell? ⟨b', o' + k * 6 + 3, none⟩ = some (.int .i64 y.lines[k].units) ∧ w'.cell? ⟨b', o' + k * 6 + 4, none⟩ = some (.int .i64 y.lines[k].billed) ∧ w'.cell? ⟨b', o' + k * 6 + 5, none⟩ = some (.int .i64 y.lines[k].prior)) := fun w' hb => by
        obtain ⟨⟨g1, g2⟩, -⟩ := HX.out _ (below_trans HB.out hb)
        have q1 := hc.of (hb.block _ (World.block_lt_of_cell? wr _ hc.1))
        have q2 := hc'.of (hb.block _ (World.block_lt_of_cell? wr _ hc'.1))
        exact ⟨g1, g2, q1.1, q1.2.1, q1.2.2.1, q1.2.2.2.1, q1.2.2.2.2.1, q1.2.2.2.2.2, q2.1, q2.2.1, q2.2.2.1, q2.2.2.2.1, q2.2.2.2.2.1, q2.2.2.2.2.2⟩
      have HBd : Hid (Below wr.heap.size wr wr.drew) := Below.drew (Below.refl _ _)
      obtain ⟨c0, c1, c2, c3, c4, c5⟩ := hc
      obtain ⟨d0, d1, d2, d3, d4, d5⟩ := hc'
      by_cases he : x.lines[k] = y.lines[k]
      · rw [decide_eq_true he] at HC
        have HE2 := Lib.hid (HQ.out he)
        clear he HN HQ
        go_wp2_with fail
        go_region_held3 (fun w' => w'.cell? ⟨w.heap.size, 6, none⟩ = some (.slice (some ⟨b, o, none⟩) x.lines.length c) ∧ w'.cell? ⟨w.heap.size + 1, 6, none⟩ = some (.slice (some ⟨b', o', none⟩) y.lines.length c') ∧ w'.cell? ⟨b, o + k * 6, none⟩ = some (.string (mk x.lines[k].proc)) ∧ w'.cell? ⟨b, o + k * 6 + 1, none⟩ = some (.slice au x.lines[k].mods.length cu) ∧ w'.cell? ⟨b, o + k * 6 + 2, none⟩ = some (.int .i64 x.lines[k].date) ∧ w'.cell? ⟨b, o + k * 6 + 3, none⟩ = some (.int .i64 x.lines[k].units) ∧ w'.cell? ⟨b, o + k * 6 + 4, none⟩ = some (.int .i64 x.lines[k].billed) ∧ w'.cell? ⟨b, o + k * 6 + 5, none⟩ = some (.int .i64 x.lines[k].prior) ∧ w'.cell? ⟨b', o' + k * 6, none⟩ = some (.string (mk y.lines[k].proc)) ∧ w'.cell? ⟨b', o' + k * 6 + 1, none⟩ = some (.slice au' y.lines[k].mods.length cu') ∧ w'.cell? ⟨b', o' + k * 6 + 2, none⟩ = some (.int .i64 y.lines[k].date) ∧ w'.cell? ⟨b', o' + k * 6 + 3, none⟩ = some (.int .i64 y.lines[k].units) ∧ w'.cell? ⟨b', o' + k * 6 + 4, none⟩ = some (.int .i64 y.lines[k].billed) ∧ w'.cell? ⟨b', o' + k * 6 + 5, none⟩ = some (.int .i64 y.lines[k].prior)) (go_keep) (first | (go_at_call 39; refine (HC.out _ HBd.out).mono ?_; rintro e w1 ⟨rfl, hb⟩; have HB2 := Lib.hid (below_trans HBd.out hb); obtain ⟨r0, r1, r2, r3, r4, r5, r6, r7, r8, r9, r10, r11, r12, r13⟩ := HSX.out _ HB2.out; clear hb))
        go_wp2
        go_roundg (x.lines.length - (k + 1))
        case rel => exact ⟨k + 1, by omega, rfl, by go_num, HE2.out, below_trans HB.out HB2.out⟩
        case measure => omega
      · rw [decide_eq_false he] at HC
        have HE2 := Lib.hid (HF.out (HN.out he))
        clear he HN HQ
        go_wp2_with fail
        go_region_held3 (fun w' => w'.cell? ⟨w.heap.size, 6, none⟩ = some (.slice (some ⟨b, o, none⟩) x.lines.length c) ∧ w'.cell? ⟨w.heap.size + 1, 6, none⟩ = some (.slice (some ⟨b', o', none⟩) y.lines.length c') ∧ w'.cell? ⟨b, o + k * 6, none⟩ = some (.string (mk x.lines[k].proc)) ∧ w'.cell? ⟨b, o + k * 6 + 1, none⟩ = some (.slice au x.lines[k].mods.length cu) ∧ w'.cell? ⟨b, o + k * 6 + 2, none⟩ = some (.int .i64 x.lines[k].date) ∧ w'.cell? ⟨b, o + k * 6 + 3, none⟩ = some (.int .i64 x.lines[k].units) ∧ w'.cell? ⟨b, o + k * 6 + 4, none⟩ = some (.int .i64 x.lines[k].billed) ∧ w'.cell? ⟨b, o + k * 6 + 5, none⟩ = some (.int .i64 x.lines[k].prior) ∧ w'.cell? ⟨b', o' + k * 6, none⟩ = some (.string (mk y.lines[k].proc)) ∧ w'.cell? ⟨b', o' + k * 6 + 1, none⟩ = some (.slice au' y.lines[k].mods.length cu') ∧ w'.cell? ⟨b', o' + k * 6 + 2, none⟩ = some (.int .i64 y.lines[k].date) ∧ w'.cell? ⟨b', o' + k * 6 + 3, none⟩ = some (.int .i64 y.lines[k].units) ∧ w'.cell? ⟨b', o' + k * 6 + 4, none⟩ = some (.int .i64 y.lines[k].billed) ∧ w'.cell? ⟨b', o' + k * 6 + 5, none⟩ = some (.int .i64 y.lines[k].prior)) (go_keep) (first | (go_at_call 39; refine (HC.out _ HBd.out).mono ?_; rintro e w1 ⟨rfl, hb⟩; have HB2 := Lib.hid (below_trans HBd.out hb); obtain ⟨r0, r1, r2, r3, r4, r5, r6, r7, r8, r9, r10, r11, r12, r13⟩ := HSX.out _ HB2.out; clear hb))
        go_wp2
        go_ret
        exact ⟨by rw [HE2.out]; rfl, below_trans HBW.out HB2.out⟩
    · have HE2 := Lib.hid (HS.out (takes_all x.lines y.lines k (by omega) HL.out HA.out))
      go_wp2
      go_ret
      exact ⟨by rw [HE2.out]; rfl, HBW.out⟩
end Go.Proofs.YtpmnepihaljamaaGreatDoor.Cm
end
