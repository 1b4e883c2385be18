/-
  What claim.Check and Batch answer, as contracts.
-/
import Derived.Test.YtpmlmoclocccoaaDoorLLines
import Derived.Test.YtpmlmoclocccoaaDoorLHead
import Derived.Test.YtpmlmoclocccoaaDoorLTot
set_option linter.unusedSimpArgs false
namespace Go.Proofs.YtpmlmoclocccoaaDoor.Cm
open Go.RowKit

abbrev boxc (c : Cl) (m : Value) : Obj := .cells #[.string (mk c.id), .string (mk c.mem), .string (mk c.fam), .int .i64 c.net, .int .i64 c.does, .string (mk c.ref), m] 24
theorem slice_of {m : Value} {a : Option Addr} {n c : Nat} (h : m = .slice a n c) : ∃ a n k, m = .slice a n k := ⟨a, n, c, h⟩
theorem rest10 {c : Cl} (h : ¬ c.lines.length ≤ 999) : restE c = 10 := by unfold restE; rw [if_neg h]
theorem rest6 {c : Cl} (h : c.lines.length ≤ 999) (h1 : voidB c = false) : restE c = 6 := by unfold restE; rw [if_pos h, h1]; simp
theorem restL {c : Cl} (h : c.lines.length ≤ 999) (h1 : voidB c = true) (h2 : linesE c.lines ≠ 0) : restE c = linesE c.lines := by unfold restE; rw [if_pos h, if_pos h1, if_neg h2]
theorem restT {c : Cl} (h : c.lines.length ≤ 999) (h1 : voidB c = true) (h2 : linesE c.lines = 0) : restE c = totE c.lines := by unfold restE; rw [if_pos h, if_pos h1, if_pos h2]

set_option maxHeartbeats 2000000 in
theorem check_any (c : Cl) (m : Value) (w : World) (hm : LnsAt All w m c.lines) (hz : ClOk c) (hT : Da.Tab w) :
    Calls Tryd.prog 13 #[clv c m] w fun e w' => e = .returned (.int .i64 (checkE c)) ∧ Below w.heap.size w w' := by
  obtain ⟨a, k, hsl, f1, f2⟩ := LnsAt.form hm
  have HH := Lib.hid fun w => head_any c m w (slice_of hsl) hz.short
  have HB := Lib.hid fun o => below_alloc w o
  have HBX : Hid (∀ w', Below (w.alloc (boxc c m)).heap.size (w.alloc (boxc c m)) w' → ClBox w' w.heap.size c m ∧ Below w.heap.size w w') := fun w' hb => ⟨(ClBox.new w c m _).grw hb, below_trans (below_alloc w _) hb⟩
  have HL := Lib.hid fun w' (hb : Below w.heap.size w w') => lines_any m c.lines w' (LnsAt.move hm (Below.moves hb)) hz.2.2.2.2.2.2.2 (tab_below hT hb)
  have HTT := Lib.hid fun w' (hb : Below w.heap.size w w') (hl : c.lines.length ≤ 999) => total_any c m w' (LnsAt.move hm (Below.moves hb)) (by omega)
  obtain rfl := hsl
  clear hm hz hT
  by_cases h0 : headE c = 0
  case neg =>
    have hE : checkE c = headE c := by unfold checkE; rw [if_neg h0]
    have hb : (headE c != 0) = true := by simpa using h0
    rw [hE]
    clear hE h0 HL HTT
    generalize headE c = E at *
    go_enter Tryd.func13, Tryd.ntmps13
    go_wp2_with (first | (go_at_call 27; refine (HH.out _).mono ?_; rintro e w1 ⟨rfl, hb⟩; have HB1 := Lib.hid (HBX.out _ hb).2; clear hb))
    go_ret
    exact ⟨rfl, HB1.out⟩
  have hE : checkE c = restE c := by unfold checkE; rw [if_pos h0]
  rw [h0] at HH
  rw [hE]
  clear hE h0
  have H10 := Lib.hid (@rest10 c)
  have H6 := Lib.hid (@rest6 c)
  have HLL := Lib.hid (@restL c)
  have HLT := Lib.hid (@restT c)
  unfold voidB at H6 HLL HLT
  generalize restE c = R at *
  generalize linesE c.lines = LE at *
  generalize totE c.lines = TE at *
  generalize totV c.lines = TV at *
  by_cases h1 : c.lines.length ≤ 999
  case neg =>
    have h1' : (999 : Int) < (c.lines.length : Int) := by omega
    rw [H10.out h1]
    clear H10 H6 HLL HLT HL HTT
    go_enter Tryd.func13, Tryd.ntmps13
    go_wp2_with (first | (go_at_call 27; refine (HH.out _).mono ?_; rintro e w1 ⟨rfl, hb⟩; obtain ⟨⟨n0, n1, n2, n3, n4, n5, n6⟩, hb2⟩ := HBX.out _ hb; have HB1 := Lib.hid hb2; clear hb hb2))
    go_ret
    exact ⟨rfl, HB1.out⟩
  have h1' : ¬ (999 : Int) < (c.lines.length : Int) := by omega
  have e8 : (c.does == 8) = decide (c.does = 8) := by rw [Bool.eq_iff_iff]; simp
  have el : ((c.lines.length : Int) == 0) = decide (c.lines.length = 0) := by rw [Bool.eq_iff_iff]; simp
  obtain ⟨V, hV⟩ : ∃ V, V = decide (c.does = 8) := ⟨_, rfl⟩
  obtain ⟨Z, hZ⟩ : ∃ Z, Z = decide (c.lines.length = 0) := ⟨_, rfl⟩
  rw [← hV] at e8
  rw [← hZ] at el
  rw [← hV, ← hZ] at H6 HLL HLT
  clear hV hZ
  cases hq : (V == Z)
  · rw [H6.out h1 hq]
    have hv : (V != Z) = true := by unfold bne; rw [hq]; rfl
    clear H10 H6 HLL HLT HL HTT
    go_enter Tryd.func13, Tryd.ntmps13
    go_wp2_with (first | (go_at_call 27; refine (HH.out _).mono ?_; rintro e w1 ⟨rfl, hb⟩; obtain ⟨⟨n0, n1, n2, n3, n4, n5, n6⟩, hb2⟩ := HBX.out _ hb; have HB1 := Lib.hid hb2; clear hb hb2))
    go_ret
    exact ⟨rfl, HB1.out⟩
  have hv : (V != Z) = false := by unfold bne; rw [hq]; rfl
  by_cases h2 : LE = 0
  · rw [HLT.out h1 hq h2]
    have HT2 := Lib.hid fun w' hb => HTT.out w' hb h1
    obtain rfl := h2
    clear H10 H6 HLL HLT HTT
    go_enter Tryd.func13, Tryd.ntmps13
    go_wp2_with (first | (go_at_call 27; refine (HH.out _).mono ?_; rintro e w1 ⟨rfl, hb⟩; obtain ⟨⟨n0, n1, n2, n3, n4, n5, n6⟩, hb2⟩ := HBX.out _ hb; have HB1 := Lib.hid hb2; have HBa := Lib.hid hb; clear hb hb2) | (go_at_call 28; refine (HL.out _ HB1.out).mono ?_; rintro e w2 ⟨rfl, hb⟩; obtain ⟨⟨q0, q1, q2, q3, q4, q5, q6⟩, hb2⟩ := HBX.out _ (below_trans HBa.out hb); have HB2 := Lib.hid hb2; clear hb hb2) | (go_at_call 11; refine (HT2.out _ HB2.out).mono ?_; rintro e w3 ⟨rfl, hb⟩; have HB3 := Lib.hid (below_trans HB2.out hb); clear hb))
    go_ret
    exact ⟨rfl, HB3.out⟩
  · rw [HLL.out h1 hq h2]
    have hb0 : (LE != 0) = true := by simpa using h2
    clear H10 H6 HLL HLT HTT h2
    go_enter Tryd.func13, Tryd.ntmps13
    go_wp2_with (first | (go_at_call 27; refine (HH.out _).mono ?_; rintro e w1 ⟨rfl, hb⟩; obtain ⟨⟨n0, n1, n2, n3, n4, n5, n6⟩, hb2⟩ := HBX.out _ hb; have HB1 := Lib.hid hb2; have HBa := Lib.hid hb; clear hb hb2) | (go_at_call 28; refine (HL.out _ HB1.out).mono ?_; rintro e w2 ⟨rfl, hb⟩; have HB2 := Lib.hid (below_trans HB1.out hb); clear hb))
    go_ret
    exact ⟨rfl, HB2.out⟩

/-- A batch in a box. -/
def BtBox (w : World) (b : Nat) (n : Int) (m : Value) : Prop := w.cell? ⟨b, 0, none⟩ = some (.int .i64 n) ∧ w.cell? ⟨b, 1, none⟩ = some m
abbrev btv (n : Int) (m : Value) : Value := .agg #[.int .i64 n, m]
abbrev boxb (n : Int) (m : Value) : Obj := .cells #[.int .i64 n, m] 40

set_option maxHeartbeats 2000000 in
theorem batch_any (n : Int) (m : Value) (l : List Cl) (w : World) (hm : ClsAt All w m l) (hz : ∀ c ∈ l, ClOk c) (hT : Da.Tab w) :
    Calls Tryd.prog 19 #[btv n m] w fun e w' => e = .returned (.int .i64 (batchE n l)) ∧ Below w.heap.size w w' := by
  have HB := Lib.hid fun o => below_alloc w o
  have HM := Lib.hid hm
  have HZ := Lib.hid hz
  have HT := Lib.hid hT
  obtain ⟨a, k, rfl, f1, f2⟩ := ClsAt.form hm
  clear hm hz hT
  by_cases g1 : n < 0
  · have hE : batchE n l = 3 := by unfold batchE; rw [decide_eq_false (p := 0 ≤ n) (by omega)]; simp
    have d1 : decide (n < 0) = true := decide_eq_true g1
    rw [hE]
    go_enter Tryd.func19, Tryd.ntmps19
    go_wp2
    go_ret
    exact ⟨rfl, HB.out _⟩
  have d1 : decide (n < 0) = false := decide_eq_false g1
  by_cases g2 : 999999999 < n
  · have hE : batchE n l = 3 := by unfold batchE; rw [decide_eq_false (p := n ≤ 999999999) (by omega)]; simp
    have d2 : decide (999999999 < n) = true := decide_eq_true g2
    rw [hE]
    go_enter Tryd.func19, Tryd.ntmps19
    go_wp2
    go_ret
    exact ⟨rfl, HB.out _⟩
  have d2 : decide (999999999 < n) = false := decide_eq_false g2
  have hq : (decide (0 ≤ n) && decide (n ≤ 999999999)) = true := by rw [decide_eq_true (p := 0 ≤ n) (by omega), decide_eq_true (p := n ≤ 999999999) (by omega)]; rfl
  by_cases g3 : l.length ≤ 256
  case neg =>
    have hE : batchE n l = 10 := by unfold batchE; rw [if_pos hq, if_neg g3]
    have g3' : (256 : Int) < (l.length : Int) := by omega
    have d3 : decide ((256 : Int) < (l.length : Int)) = true := decide_eq_true g3'
    rw [hE]
    clear hq
    go_enter Tryd.func19, Tryd.ntmps19
    go_wp2
    go_ret
    exact ⟨rfl, HB.out _⟩
  have hE : batchE n l = firstC l := by unfold batchE; rw [if_pos hq, if_pos g3]
  have g3' : ¬ (256 : Int) < (l.length : Int) := by omega
  have d3 : decide ((256 : Int) < (l.length : Int)) = false := decide_eq_false g3'
  rw [hE]
  clear hq hE
  go_enter Tryd.func19, Tryd.ntmps19
  go_wp2
  go_loopg [23] (l.length) (fun g i wr => ∃ j : Nat, j ≤ l.length ∧ g = l.length - j ∧ i = .int .i64 j ∧ Hid (Below w.heap.size w wr) ∧ Hid (firstC (l.drop j) = firstC l))
  case atStart => exact ⟨0, Nat.zero_le _, rfl, rfl, HB.out _, by rfl⟩
  case round =>
    obtain ⟨j, hj, hg, rfl, HB2, HF⟩ := hrel
    by_cases hlt : j < l.length
    · have hL := ClsAt.move HM.out (Below.moves HB2.out)
      obtain ⟨b, o, m, rfl, hx, ⟨c0, c1, c2, c3, c4, c5, c6⟩, hr⟩ := ClsAt.get hL j hlt
      have hbl := World.block_lt_of_cell? wr _ c0
      have HC := Lib.hid fun o => check_any l[j] m (wr.alloc o) (LnsAt.move hr (Below.moves (below_alloc wr o))) (HZ.out _ (List.mem_of_getElem? hx)) (tab_below (tab_below HT.out HB2.out) (below_alloc wr o))
      have HG : Hid (∀ o w', Below (wr.alloc o).heap.size (wr.alloc o) w' → Below w.heap.size w w') := fun o w' hb => below_trans (below_trans HB2.out (below_alloc wr o)) hb
      have HBD := Lib.hid (firstC_bad l j _ hx HF.out)
      have HST := Lib.hid (firstC_step l j _ hx HF.out)
      obtain ⟨am, cm, rfl, -, -⟩ := LnsAt.form hr
      clear hx hr hL
      by_cases he : checkE l[j] = 0
      · have HQ := Lib.hid (HST.out he)
        rw [he] at HC
        clear he HBD HST
        go_wp2_with (first | (go_at_call 13; refine (HC.out _).mono ?_; rintro e w1 ⟨rfl, hb⟩; have HB3 := Lib.hid (HG.out _ _ hb); clear hb))
        go_roundg (l.length - (j + 1))
        case rel => exact ⟨j + 1, by omega, rfl, by go_num, HB3.out, HQ.out⟩
        case measure => omega
      · have HQ := Lib.hid (HBD.out he)
        have hb0 : (checkE l[j] != 0) = true := by simpa using he
        clear he HBD HST
        go_wp2_with (first | (go_at_call 13; refine (HC.out _).mono ?_; rintro e w1 ⟨rfl, hb⟩; have HB3 := Lib.hid (HG.out _ _ hb); clear hb))
        go_ret
        exact ⟨by rw [HQ.out]; rfl, HB3.out⟩
    · have HQ := Lib.hid (firstC_end l j (by omega) HF.out)
      go_wp2
      go_ret
      exact ⟨by rw [HQ.out]; rfl, HB2.out⟩
end Go.Proofs.YtpmlmoclocccoaaDoor.Cm
