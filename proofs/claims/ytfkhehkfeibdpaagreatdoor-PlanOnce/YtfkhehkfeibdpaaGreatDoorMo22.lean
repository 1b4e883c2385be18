/-
  Texts put together (merge.py): PIs, PSet.
-/
import Derived.Test.YtfkhehkfeibdpaaGreatDoorMo14
import Derived.Test.YtfkhehkfeibdpaaGreatDoorMo21
/-
  What plan.isSet answers, as a contract: whether one of some sets is of a What.
-/
section
set_option linter.unusedSimpArgs false
set_option linter.unusedVariables false
set_option maxRecDepth 100000
namespace Go.Proofs.YtfkhehkfeibdpaaGreatDoor.Pl
open Go.RowKit
open Wo (Wd WdsAt box_cell box_two keepB heap_far)

theorem isf_any (s : St) (k : Int) (p : Nat) (w : World) (hp : w.heap[p]? = some (.cells #[.int .i64 k] 3 (0, 0))) :
    Calls Tryz.prog 77 #[stv s, .pointer (some ⟨p, 0, none⟩)] w fun e w' => e = .returned (.bool (s.what == k)) ∧ Below w.heap.size w w' := by
  have hb := below_alloc w (.cells #[.int .i64 s.what, .int .i64 s.n] 67)
  obtain ⟨c0, -⟩ := box_cell (keepB hp hb)
  have HB := Lib.hid hb
  clear hb hp
  go_enter Tryz.func77, Tryz.ntmps77
  go_wp2
  go_ret
  exact ⟨rfl, HB.out⟩
set_option maxHeartbeats 4000000 in
theorem idxf_any (v : Value) (ss : List St) (k : Int) (p : Nat) (w : World) (h : StsAt All w v ss) (hp : w.heap[p]? = some (.cells #[.int .i64 k] 3 (0, 0))) :
    Calls Tryz.prog 89 #[v, .func (.func 77) #[] #[.pointer (some ⟨p, 0, none⟩)]] w fun e w' => (∃ n : Int, e = .returned (.int .i64 n) ∧ (decide (0 ≤ n) = decide (k ∈ ss.map (·.what)))) ∧ Below w.heap.size w w' := by
  have HS := Lib.hid h
  have HP := Lib.hid hp
  obtain ⟨a, c, rfl, h1, h2, h4⟩ := h.form
  have HB0 := Lib.hid (Below.refl w.heap.size w)
  clear h hp
  go_enter Tryz.func89, Tryz.ntmps89
  go_wp2
  go_loopg [8] (ss.length) (fun g i wr => ∃ (n : Nat), n ≤ ss.length ∧ g = ss.length - n ∧ i = .int .i64 n ∧ Hid (Below w.heap.size w wr) ∧ Hid (k ∉ (ss.take n).map (·.what)))
  case atStart => exact ⟨0, Nat.zero_le _, rfl, rfl, HB0.out, by show _ ∉ _; simp⟩
  case round =>
    clear HB0
    obtain ⟨n, hk, hg, rfl, HB, HA⟩ := hrel
    by_cases hlt : n < ss.length
    · obtain ⟨b, o, rfl, hbs, hx, hu0, hu1, -, -⟩ := StsAt.get (HS.out.grw HB.out) n hlt
      have HC := Lib.hid fun W (hW : W.heap[p]? = some (.cells #[.int .i64 k] 3 (0, 0))) => isf_any ss[n] k p W hW
      have HP1 := Lib.hid (keepB HP.out HB.out)
      have HH : Hid (ss[n].what = k → k ∈ ss.map (·.what)) := fun e => by rw [← e]; exact List.mem_map_of_mem (List.getElem_mem hlt)
      have HN : Hid (¬ ss[n].what = k → k ∉ (ss.take (n + 1)).map (·.what)) := fun he => by
        show k ∉ (ss.take (n + 1)).map (·.what)
        rw [List.take_add_one, hx]
        simp only [Option.toList_some, List.map_append, List.map_cons, List.map_nil, List.mem_append, List.mem_singleton, not_or]
        exact ⟨HA.out, fun e => he e.symm⟩
      clear hx
      generalize ss[n] = x at *
      by_cases he : x.what = k
      · have hq : (x.what == k) = true := by simpa using he
        have HH2 := Lib.hid (HH.out he)
        rw [hq] at HC
        clear he hq
        go_wp2_with (go_at_call 77; refine (HC.out _ HP1.out).mono ?_; rintro e w1 ⟨rfl, hb1⟩; have HB1 := Lib.hid hb1; clear hb1)
        go_ret
        refine ⟨⟨(n : Nat), rfl, ?_⟩, below_trans HB.out HB1.out⟩
        rw [decide_eq_true HH2.out, decide_eq_true (by omega)]
      · have hq : (x.what == k) = false := by simpa using he
        have HN2 := Lib.hid (HN.out he)
        rw [hq] at HC
        clear he hq
        go_wp2_with (go_at_call 77; refine (HC.out _ HP1.out).mono ?_; rintro e w1 ⟨rfl, hb1⟩; have HB1 := Lib.hid hb1; clear hb1)
        go_roundg (ss.length - (n + 1))
        case rel => exact ⟨n + 1, by omega, rfl, by go_num, below_trans HB.out HB1.out, HN2.out⟩
        case measure => omega
    · have hall : ss.take n = ss := List.take_of_length_le (by omega)
      have HM : Hid (k ∉ ss.map (·.what)) := by show _ ∉ _; rw [← hall]; exact HA.out
      clear hall
      go_wp2
      go_ret
      refine ⟨⟨-1, rfl, ?_⟩, HB.out⟩
      rw [decide_eq_false HM.out, decide_eq_false (by omega)]
set_option maxHeartbeats 4000000 in
theorem contf_any (v : Value) (ss : List St) (k : Int) (p : Nat) (w : World) (h : StsAt All w v ss) (hp : w.heap[p]? = some (.cells #[.int .i64 k] 3 (0, 0))) :
    Calls Tryz.prog 76 #[v, .func (.func 77) #[] #[.pointer (some ⟨p, 0, none⟩)]] w fun e w' => e = .returned (.bool (decide (k ∈ ss.map (·.what)))) ∧ Below w.heap.size w w' := by
  have HC := Lib.hid (idxf_any v ss k p w h hp)
  clear h hp
  go_enter Tryz.func76, Tryz.ntmps76
  go_wp2_with (go_at_call 89; refine HC.out.mono ?_; rintro e w1 ⟨⟨n, rfl, hn⟩, hb1⟩; have HB1 := Lib.hid hb1; have HN := Lib.hid hn; clear hb1 hn)
  go_ret
  exact ⟨by rw [← HN.out]; rfl, HB1.out⟩
set_option maxHeartbeats 4000000 in
theorem isSet_any (v : Value) (ss : List St) (k : Int) (w : World) (h : StsAt All w v ss) :
    Calls Tryz.prog 58 #[v, .int .i64 k] w fun e w' => e = .returned (.bool (decide (k ∈ ss.map (·.what)))) ∧ Below w.heap.size w w' := by
  have hb := below_alloc w (.cells #[.int .i64 k] 3)
  have HC := Lib.hid (contf_any v ss k w.heap.size _ (h.grw hb) (heap_alloc_new w (.cells #[.int .i64 k] 3)))
  have HB := Lib.hid hb
  obtain ⟨a, c, rfl, h1, h2, h4⟩ := h.form
  have hmf : ∀ (fn : Fn) (first cap : Array Value) (w : World), (Instr.makeFunc fn first cap).run Tryz.prog w = .ok (.func fn first cap) w := fun _ _ _ _ => rfl
  clear h hb
  generalize decide (k ∈ ss.map (·.what)) = R at *
  go_enter Tryz.func58, Tryz.ntmps58
  go_wp2_with (go_at_call 76; refine HC.out.mono ?_; rintro e w1 ⟨rfl, hb1⟩; have HB1 := Lib.hid hb1; clear hb1)
  go_ret
  exact ⟨rfl, below_trans HB.out HB1.out⟩
end Go.Proofs.YtfkhehkfeibdpaaGreatDoor.Pl
end

/-
  What the reader's set and sets do, as contracts.
-/
section
set_option linter.unusedSimpArgs false
set_option linter.unusedVariables false
set_option maxRecDepth 100000
namespace Go.Proofs.YtfkhehkfeibdpaaGreatDoor.Pl
open Go.RowKit
open Wo (Wd WdsAt box_cell box_two keepB heap_far)

/-- One set, behind the word that names it. -/
def pSetX (E : Nat) (x : Wd) (r : List Wd) : R St :=
  if x.1 = tCover then (match pTruth E r with | .error e => .error e | .ok (n, r) => .ok (⟨1, n⟩, r))
  else if x.1 = tDed then (match pTruth E r with | .error e => .error e | .ok (n, r) => .ok (⟨2, n⟩, r))
  else if x.1 = tCopay then (match pMoney E r with | .error e => .error e | .ok (n, r) => .ok (⟨3, n⟩, r))
  else if x.1 = tCoins then (match pNum E 10000 r with | .error e => .error e | .ok (n, r) => .ok (⟨4, n⟩, r))
  else .error (4, x.2)
theorem pSet_tk (E : Nat) (l : List Wd) : pSet E l = pSetX E (tkW E l) l.tail := by
  cases l with
  | nil => rfl
  | cons x r => rfl
def Stv (s : St) (v : Value) (_ : World) : Prop := v = stv s ∧ Cm.I64 s.what ∧ Cm.I64 s.n
abbrev put2 (w : World) (p : Nat) (a b : Value) : World := (w.setCell ⟨p, 0, none⟩ a).setCell ⟨p, 1, none⟩ b
theorem grown_put2 {w W : World} {q : Option Nat} (h : w.grownBy W q) {p : Nat} (hp : w.heap.size ≤ p) (a b : Value) : w.grownBy (put2 W p a b) q := grown_new (grown_new h hp 0 a) hp 1 b
theorem rd_put2 {q E p : Nat} {l : List Wd} {w : World} (h : RdAt q E l w) (hp : q < p) (a b : Value) : RdAt q E l (put2 w p a b) := rd_set (rd_set h hp 0 a) hp 1 b
set_option maxHeartbeats 8000000 in
theorem set_any (q E : Nat) (x : Wd) (r : List Wd) (w : World) (h : RdAt q E r w) :
    Calls Tryz.prog 102 #[.pointer (some ⟨q, 0, none⟩), wdv x] w fun e w' => Ans q E w Stv (pSetX E x r) e w' := by
  have hq := h.lt
  have hb0 := below_trans (below_alloc w (.cells #[.string (mk x.1), .int .i64 (x.2 : Nat)] 75)) (below_alloc _ (.cells #[.int .i64 0, .int .i64 0] 67))
  have HR2 := Lib.hid (h.grw hb0)
  have HG2 := Lib.hid (grown_of (p := some q) hb0)
  have HX := Lib.hid (keepB (heap_alloc_new w (.cells #[.string (mk x.1), .int .i64 (x.2 : Nat)] 75)) (below_alloc _ (.cells #[.int .i64 0, .int .i64 0] 67)))
  have hz : (w.alloc (.cells #[.string (mk x.1), .int .i64 (x.2 : Nat)] 75)).heap.size = w.heap.size + 1 := by simp
  have HB2 := Lib.hid (heap_alloc_new (w.alloc (.cells #[.string (mk x.1), .int .i64 (x.2 : Nat)] 75)) (.cells #[.int .i64 0, .int .i64 0] 67))
  rw [hz] at HB2
  obtain ⟨d0, d1, -, -⟩ := box_two HX.out
  clear h hb0 hz
  have HF := Lib.hid fun W => fault_any 4 x W
  by_cases h0 : x.1 = tCover
  · have hRR : pSetX E x r = (match pTruth E r with | .error e => .error e | .ok (n, r) => .ok (⟨1, n⟩, r)) := by unfold pSetX; rw [if_pos h0]
    have b0 : ((mk x.1).toList == [99, 111, 118, 101, 114]) = true := lit_t h0
    have HRR := Lib.hid hRR
    clear hRR h0
    generalize pSetX E x r = RR at *
    go_enter Tryz.func102, Tryz.ntmps102
    go_upto_region 1 with fail
    generalize (w.alloc (.cells #[.string (mk x.1), .int .i64 (x.2 : Nat)] 75)).alloc (.cells #[.int .i64 0, .int .i64 0] 67) = W2 at *
    go_wp2_with fail
    go_at_call 110
    refine (answer_any q E r W2 HR2.out).mono ?_
    rintro e w3 ⟨hg, ha⟩
    have HG3 := Lib.hid (grown_tr HG2.out hg)
    have HB3 := Lib.hid (grown_heap HB2.out hg (by omega))
    cases hc : pTruth E r with
    | error fl =>
      rw [hc] at ha
      obtain rfl := ha
      refine thrown rfl ⟨HG3.out, ?_⟩
      rw [HRR.out]
      simp only [hc]
    | ok z =>
      obtain ⟨y, s⟩ := z
      rw [hc] at ha
      obtain ⟨⟨v, rfl, hv⟩, hr⟩ := ha
      obtain rfl : v = .int .i64 y := hv
      obtain ⟨-, hb1, hb2⟩ := truth_inv hc
      have HR3 := Lib.hid hr
      have HC := Lib.hid hc
      obtain ⟨g0, g1, f0, f1⟩ := box_two HB3.out
      clear hr hg hc HG2 HB2 HR2 HX d0 d1
      go_wp2
      refine bodyPost_ret (v := stv ⟨1, y⟩) (by simp [results, Tryz.results102, go_sem, g0, g1]) rfl ?_
      refine ⟨grown_put2 HG3.out (p := w.heap.size + 1) (by omega) _ _, ?_⟩
      rw [HRR.out]
      simp only [HC.out]
      exact ⟨⟨_, rfl, rfl, ⟨by show (-9223372036854775808 : Int) ≤ 1; decide, by show (1 : Int) ≤ 9223372036854775807; decide⟩, ⟨by show (-9223372036854775808 : Int) ≤ y; omega, by show y ≤ 9223372036854775807; omega⟩⟩, rd_put2 HR3.out (by omega) _ _⟩
  by_cases h1 : x.1 = tDed
  · have hRR : pSetX E x r = (match pTruth E r with | .error e => .error e | .ok (n, r) => .ok (⟨2, n⟩, r)) := by unfold pSetX; rw [if_neg h0, if_pos h1]
    have b0 : ((mk x.1).toList == [99, 111, 118, 101, 114]) = false := lit_f h0
    have b1 : ((mk x.1).toList == [100, 101, 100, 117, 99, 116]) = true := lit_t h1
    have HRR := Lib.hid hRR
    clear hRR h0 h1
    generalize pSetX E x r = RR at *
    go_enter Tryz.func102, Tryz.ntmps102
    go_upto_region 1 with fail
    generalize (w.alloc (.cells #[.string (mk x.1), .int .i64 (x.2 : Nat)] 75)).alloc (.cells #[.int .i64 0, .int .i64 0] 67) = W2 at *
    go_wp2_with fail
    go_at_call 110
    refine (answer_any q E r W2 HR2.out).mono ?_
    rintro e w3 ⟨hg, ha⟩
    have HG3 := Lib.hid (grown_tr HG2.out hg)
    have HB3 := Lib.hid (grown_heap HB2.out hg (by omega))
    cases hc : pTruth E r with
    | error fl =>
      rw [hc] at ha
      obtain rfl := ha
      refine thrown rfl ⟨HG3.out, ?_⟩
      rw [HRR.out]
      simp only [hc]
    | ok z =>
      obtain ⟨y, s⟩ := z
      rw [hc] at ha
      obtain ⟨⟨v, rfl, hv⟩, hr⟩ := ha
      obtain rfl : v = .int .i64 y := hv
      obtain ⟨-, hb1, hb2⟩ := truth_inv hc
      have HR3 := Lib.hid hr
      have HC := Lib.hid hc
      obtain ⟨g0, g1, f0, f1⟩ := box_two HB3.out
      clear hr hg hc HG2 HB2 HR2 HX d0 d1
      go_wp2
      refine bodyPost_ret (v := stv ⟨2, y⟩) (by simp [results, Tryz.results102, go_sem, g0, g1]) rfl ?_
      refine ⟨grown_put2 HG3.out (p := w.heap.size + 1) (by omega) _ _, ?_⟩
      rw [HRR.out]
      simp only [HC.out]
      exact ⟨⟨_, rfl, rfl, ⟨by show (-9223372036854775808 : Int) ≤ 2; decide, by show (2 : Int) ≤ 9223372036854775807; decide⟩, ⟨by show (-9223372036854775808 : Int) ≤ y; omega, by show y ≤ 9223372036854775807; omega⟩⟩, rd_put2 HR3.out (by omega) _ _⟩
  by_cases h2 : x.1 = tCopay
  · have hRR : pSetX E x r = (match pMoney E r with | .error e => .error e | .ok (n, r) => .ok (⟨3, n⟩, r)) := by unfold pSetX; rw [if_neg h0, if_neg h1, if_pos h2]
    have b0 : ((mk x.1).toList == [99, 111, 118, 101, 114]) = false := lit_f h0
    have b1 : ((mk x.1).toList == [100, 101, 100, 117, 99, 116]) = false := lit_f h1
    have b2 : ((mk x.1).toList == [99, 111, 112, 97, 121]) = true := lit_t h2
    have HRR := Lib.hid hRR
    clear hRR h0 h1 h2
    generalize pSetX E x r = RR at *
    go_enter Tryz.func102, Tryz.ntmps102
    go_upto_region 1 with fail
    generalize (w.alloc (.cells #[.string (mk x.1), .int .i64 (x.2 : Nat)] 75)).alloc (.cells #[.int .i64 0, .int .i64 0] 67) = W2 at *
    go_wp2_with fail
    go_at_call 52
    refine (amount_any q E r W2 HR2.out).mono ?_
    rintro e w3 ⟨hg, ha⟩
    have HG3 := Lib.hid (grown_tr HG2.out hg)
    have HB3 := Lib.hid (grown_heap HB2.out hg (by omega))
    cases hc : pMoney E r with
    | error fl =>
      rw [hc] at ha
      obtain rfl := ha
      refine thrown rfl ⟨HG3.out, ?_⟩
      rw [HRR.out]
      simp only [hc]
    | ok z =>
      obtain ⟨y, s⟩ := z
      rw [hc] at ha
      obtain ⟨⟨v, rfl, hv⟩, hr⟩ := ha
      obtain rfl : v = .int .i64 y := hv
      obtain ⟨_, _, -, -, hgb⟩ := money_inv hc; simp only [goodB, Bool.and_eq_true, decide_eq_true_eq] at hgb; obtain ⟨hb1, hb2⟩ := hgb
      have HR3 := Lib.hid hr
      have HC := Lib.hid hc
      obtain ⟨g0, g1, f0, f1⟩ := box_two HB3.out
      clear hr hg hc HG2 HB2 HR2 HX d0 d1
      go_wp2
      refine bodyPost_ret (v := stv ⟨3, y⟩) (by simp [results, Tryz.results102, go_sem, g0, g1]) rfl ?_
      refine ⟨grown_put2 HG3.out (p := w.heap.size + 1) (by omega) _ _, ?_⟩
      rw [HRR.out]
      simp only [HC.out]
      exact ⟨⟨_, rfl, rfl, ⟨by show (-9223372036854775808 : Int) ≤ 3; decide, by show (3 : Int) ≤ 9223372036854775807; decide⟩, ⟨by show (-9223372036854775808 : Int) ≤ y; omega, by show y ≤ 9223372036854775807; omega⟩⟩, rd_put2 HR3.out (by omega) _ _⟩
  by_cases h3 : x.1 = tCoins
  · have hRR : pSetX E x r = (match pNum E 10000 r with | .error e => .error e | .ok (n, r) => .ok (⟨4, n⟩, r)) := by unfold pSetX; rw [if_neg h0, if_neg h1, if_neg h2, if_pos h3]
    have b0 : ((mk x.1).toList == [99, 111, 118, 101, 114]) = false := lit_f h0
    have b1 : ((mk x.1).toList == [100, 101, 100, 117, 99, 116]) = false := lit_f h1
    have b2 : ((mk x.1).toList == [99, 111, 112, 97, 121]) = false := lit_f h2
    have b3 : ((mk x.1).toList == [99, 111, 105, 110, 115]) = true := lit_t h3
    have HRR := Lib.hid hRR
    clear hRR h0 h1 h2 h3
    generalize pSetX E x r = RR at *
    go_enter Tryz.func102, Tryz.ntmps102
    go_upto_region 1 with fail
    generalize (w.alloc (.cells #[.string (mk x.1), .int .i64 (x.2 : Nat)] 75)).alloc (.cells #[.int .i64 0, .int .i64 0] 67) = W2 at *
    go_wp2_with fail
    go_at_call 85
    refine (number_any q E 10000 r W2 HR2.out).mono ?_
    rintro e w3 ⟨hg, ha⟩
    have HG3 := Lib.hid (grown_tr HG2.out hg)
    have HB3 := Lib.hid (grown_heap HB2.out hg (by omega))
    cases hc : pNum E 10000 r with
    | error fl =>
      rw [hc] at ha
      obtain rfl := ha
      refine thrown rfl ⟨HG3.out, ?_⟩
      rw [HRR.out]
      simp only [hc]
    | ok z =>
      obtain ⟨y, s⟩ := z
      rw [hc] at ha
      obtain ⟨⟨v, rfl, hv⟩, hr⟩ := ha
      obtain rfl : v = .int .i64 y := hv
      obtain ⟨_, _, -, hb1, hb2, -⟩ := num_inv hc
      have HR3 := Lib.hid hr
      have HC := Lib.hid hc
      obtain ⟨g0, g1, f0, f1⟩ := box_two HB3.out
      clear hr hg hc HG2 HB2 HR2 HX d0 d1
      go_wp2
      refine bodyPost_ret (v := stv ⟨4, y⟩) (by simp [results, Tryz.results102, go_sem, g0, g1]) rfl ?_
      refine ⟨grown_put2 HG3.out (p := w.heap.size + 1) (by omega) _ _, ?_⟩
      rw [HRR.out]
      simp only [HC.out]
      exact ⟨⟨_, rfl, rfl, ⟨by show (-9223372036854775808 : Int) ≤ 4; decide, by show (4 : Int) ≤ 9223372036854775807; decide⟩, ⟨by show (-9223372036854775808 : Int) ≤ y; omega, by show y ≤ 9223372036854775807; omega⟩⟩, rd_put2 HR3.out (by omega) _ _⟩
  · have hRR : pSetX E x r = .error (4, x.2) := by unfold pSetX; rw [if_neg h0, if_neg h1, if_neg h2, if_neg h3]
    have b0 : ((mk x.1).toList == [99, 111, 118, 101, 114]) = false := lit_f h0
    have b1 : ((mk x.1).toList == [100, 101, 100, 117, 99, 116]) = false := lit_f h1
    have b2 : ((mk x.1).toList == [99, 111, 112, 97, 121]) = false := lit_f h2
    have b3 : ((mk x.1).toList == [99, 111, 105, 110, 115]) = false := lit_f h3
    have HRR := Lib.hid hRR
    clear hRR h0 h1 h2 h3
    generalize pSetX E x r = RR at *
    go_enter Tryz.func102, Tryz.ntmps102
    go_upto_region 1 with fail
    generalize (w.alloc (.cells #[.string (mk x.1), .int .i64 (x.2 : Nat)] 75)).alloc (.cells #[.int .i64 0, .int .i64 0] 67) = W2 at *
    go_wp2_with (first | (go_at_call 71; refine (HF.out _).mono ?_; rintro e w3 ⟨rfl, hb3⟩; have HB3 := Lib.hid hb3; clear hb3))
    refine ⟨rfl, grown_tr HG2.out (grown_of HB3.out), ?_⟩
    rw [HRR.out]
end Go.Proofs.YtfkhehkfeibdpaaGreatDoor.Pl
end
