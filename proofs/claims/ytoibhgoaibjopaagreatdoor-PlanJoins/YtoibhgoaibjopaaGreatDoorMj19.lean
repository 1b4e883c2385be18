/-
  Texts put together (merge.py): PSet, PSets.
-/
import Derived.Maps.AppendAt
import Derived.Test.YtoibhgoaibjopaaGreatDoorMj18
import Derived.Test.YtoibhgoaibjopaaGreatDoorMj12
/-
  What the reader's set and sets do, as contracts.
-/
section
set_option linter.unusedSimpArgs false
set_option linter.unusedVariables false
set_option maxRecDepth 100000
namespace Go.Proofs.YtoibhgoaibjopaaGreatDoor.Pl
open Go.RowKit
open Wo (Wd WdsAt box_cell box_two keepB heap_far)

/-- One set, behind the word that names it. -/
def pSetX (E : Nat) (x : Wd) (r : List Wd) : R St :=
  if x.1 = tCover then (match pTruth E r with | .error e => .error e | .ok (n, r) => .ok (⟨1, n⟩, r))
  else if x.1 = tDed then (match pTruth E r with | .error e => .error e | .ok (n, r) => .ok (⟨2, n⟩, r))
  else if x.1 = tCopay then (match pMoney E r with | .error e => .error e | .ok (n, r) => .ok (⟨3, n⟩, r))
  else if x.1 = tCoins then (match pNum E 10000 r with | .error e => .error e | .ok (n, r) => .ok (⟨4, n⟩, r))
  else .error (4, x.2)
theorem pSet_tk (E : Nat) (l : List Wd) : pSet E l = pSetX E (tkW E l) l.tail := by
  cases l with
  | nil => rfl
  | cons x r => rfl
def Stv (s : St) (v : Value) (_ : World) : Prop := v = stv s ∧ Cm.I64 s.what ∧ Cm.I64 s.n
abbrev put2 (w : World) (p : Nat) (a b : Value) : World := (w.setCell ⟨p, 0, none⟩ a).setCell ⟨p, 1, none⟩ b
theorem grown_put2 {w W : World} {q : Option Nat} (h : w.grownBy W q) {p : Nat} (hp : w.heap.size ≤ p) (a b : Value) : w.grownBy (put2 W p a b) q := grown_new (grown_new h hp 0 a) hp 1 b
theorem rd_put2 {q E p : Nat} {l : List Wd} {w : World} (h : RdAt q E l w) (hp : q < p) (a b : Value) : RdAt q E l (put2 w p a b) := rd_set (rd_set h hp 0 a) hp 1 b
set_option maxHeartbeats 8000000 in
theorem set_any (q E : Nat) (x : Wd) (r : List Wd) (w : World) (h : RdAt q E r w) :
    Calls Tryz.prog 98 #[.pointer (some ⟨q, 0, none⟩), wdv x] w fun e w' => Ans q E w Stv (pSetX E x r) e w' := by
  have hq := h.lt
  have hb0 := below_trans (below_alloc w (.cells #[.string (mk x.1), .int .i64 (x.2 : Nat)] 73)) (below_alloc _ (.cells #[.int .i64 0, .int .i64 0] 66))
  have HR2 := Lib.hid (h.grw hb0)
  have HG2 := Lib.hid (grown_of (p := some q) hb0)
  have HX := Lib.hid (keepB (heap_alloc_new w (.cells #[.string (mk x.1), .int .i64 (x.2 : Nat)] 73)) (below_alloc _ (.cells #[.int .i64 0, .int .i64 0] 66)))
  have hz : (w.alloc (.cells #[.string (mk x.1), .int .i64 (x.2 : Nat)] 73)).heap.size = w.heap.size + 1 := by simp
  have HB2 := Lib.hid (heap_alloc_new (w.alloc (.cells #[.string (mk x.1), .int .i64 (x.2 : Nat)] 73)) (.cells #[.int .i64 0, .int .i64 0] 66))
  rw [hz] at HB2
  obtain ⟨d0, d1, -, -⟩ := box_two HX.out
  clear h hb0 hz
  have HF := Lib.hid fun W => fault_any 4 x W
  by_cases h0 : x.1 = tCover
  · have hRR : pSetX E x r = (match pTruth E r with | .error e => .error e | .ok (n, r) => .ok (⟨1, n⟩, r)) := by unfold pSetX; rw [if_pos h0]
    have b0 : ((mk x.1).toList == [99, 111, 118, 101, 114]) = true := lit_t h0
    have HRR := Lib.hid hRR
    clear hRR h0
    generalize pSetX E x r = RR at *
    go_enter Tryz.func98, Tryz.ntmps98
    go_upto_region 1 with fail
    generalize (w.alloc (.cells #[.string (mk x.1), .int .i64 (x.2 : Nat)] 73)).alloc (.cells #[.int .i64 0, .int .i64 0] 66) = W2 at *
    go_wp2_with fail
    go_at_call 107
    refine (answer_any q E r W2 HR2.out).mono ?_
    rintro e w3 ⟨hg, ha⟩
    have HG3 := Lib.hid (grown_tr HG2.out hg)
    have HB3 := Lib.hid (grown_heap HB2.out hg (by omega))
    cases hc : pTruth E r with
    | error fl =>
      rw [hc] at ha
      obtain rfl := ha
      refine thrown rfl ⟨HG3.out, ?_⟩
      rw [HRR.out]
      simp only [hc]
    | ok z =>
      obtain ⟨y, s⟩ := z
      rw [hc] at ha
      obtain ⟨⟨v, rfl, hv⟩, hr⟩ := ha
      obtain rfl : v = .int .i64 y := hv
      obtain ⟨-, hb1, hb2⟩ := truth_inv hc
      have HR3 := Lib.hid hr
      have HC := Lib.hid hc
      obtain ⟨g0, g1, f0, f1⟩ := box_two HB3.out
      clear hr hg hc HG2 HB2 HR2 HX d0 d1
      go_wp2
      refine bodyPost_ret (v := stv ⟨1, y⟩) (by simp [results, Tryz.results98, go_sem, g0, g1]) rfl ?_
      refine ⟨grown_put2 HG3.out (p := w.heap.size + 1) (by omega) _ _, ?_⟩
      rw [HRR.out]
      simp only [HC.out]
      exact ⟨⟨_, rfl, rfl, ⟨by show (-9223372036854775808 : Int) ≤ 1; decide, by show (1 : Int) ≤ 9223372036854775807; decide⟩, ⟨by show (-9223372036854775808 : Int) ≤ y; omega, by show y ≤ 9223372036854775807; omega⟩⟩, rd_put2 HR3.out (by omega) _ _⟩
  by_cases h1 : x.1 = tDed
  · have hRR : pSetX E x r = (match pTruth E r with | .error e => .error e | .ok (n, r) => .ok (⟨2, n⟩, r)) := by unfold pSetX; rw [if_neg h0, if_pos h1]
    have b0 : ((mk x.1).toList == [99, 111, 118, 101, 114]) = false := lit_f h0
    have b1 : ((mk x.1).toList == [100, 101, 100, 117, 99, 116]) = true := lit_t h1
    have HRR := Lib.hid hRR
    clear hRR h0 h1
    generalize pSetX E x r = RR at *
    go_enter Tryz.func98, Tryz.ntmps98
    go_upto_region 1 with fail
    generalize (w.alloc (.cells #[.string (mk x.1), .int .i64 (x.2 : Nat)] 73)).alloc (.cells #[.int .i64 0, .int .i64 0] 66) = W2 at *
    go_wp2_with fail
    go_at_call 107
    refine (answer_any q E r W2 HR2.out).mono ?_
    rintro e w3 ⟨hg, ha⟩
    have HG3 := Lib.hid (grown_tr HG2.out hg)
    have HB3 := Lib.hid (grown_heap HB2.out hg (by omega))
    cases hc : pTruth E r with
    | error fl =>
      rw [hc] at ha
      obtain rfl := ha
      refine thrown rfl ⟨HG3.out, ?_⟩
      rw [HRR.out]
      simp only [hc]
    | ok z =>
      obtain ⟨y, s⟩ := z
      rw [hc] at ha
      obtain ⟨⟨v, rfl, hv⟩, hr⟩ := ha
      obtain rfl : v = .int .i64 y := hv
      obtain ⟨-, hb1, hb2⟩ := truth_inv hc
      have HR3 := Lib.hid hr
      have HC := Lib.hid hc
      obtain ⟨g0, g1, f0, f1⟩ := box_two HB3.out
      clear hr hg hc HG2 HB2 HR2 HX d0 d1
      go_wp2
      refine bodyPost_ret (v := stv ⟨2, y⟩) (by simp [results, Tryz.results98, go_sem, g0, g1]) rfl ?_
      refine ⟨grown_put2 HG3.out (p := w.heap.size + 1) (by omega) _ _, ?_⟩
      rw [HRR.out]
      simp only [HC.out]
      exact ⟨⟨_, rfl, rfl, ⟨by show (-9223372036854775808 : Int) ≤ 2; decide, by show (2 : Int) ≤ 9223372036854775807; decide⟩, ⟨by show (-9223372036854775808 : Int) ≤ y; omega, by show y ≤ 9223372036854775807; omega⟩⟩, rd_put2 HR3.out (by omega) _ _⟩
  by_cases h2 : x.1 = tCopay
  · have hRR : pSetX E x r = (match pMoney E r with | .error e => .error e | .ok (n, r) => .ok (⟨3, n⟩, r)) := by unfold pSetX; rw [if_neg h0, if_neg h1, if_pos h2]
    have b0 : ((mk x.1).toList == [99, 111, 118, 101, 114]) = false := lit_f h0
    have b1 : ((mk x.1).toList == [100, 101, 100, 117, 99, 116]) = false := lit_f h1
    have b2 : ((mk x.1).toList == [99, 111, 112, 97, 121]) = true := lit_t h2
    have HRR := Lib.hid hRR
    clear hRR h0 h1 h2
    generalize pSetX E x r = RR at *
    go_enter Tryz.func98, Tryz.ntmps98
    go_upto_region 1 with fail
    generalize (w.alloc (.cells #[.string (mk x.1), .int .i64 (x.2 : Nat)] 73)).alloc (.cells #[.int .i64 0, .int .i64 0] 66) = W2 at *
    go_wp2_with fail
    go_at_call 47
    refine (amount_any q E r W2 HR2.out).mono ?_
    rintro e w3 ⟨hg, ha⟩
    have HG3 := Lib.hid (grown_tr HG2.out hg)
    have HB3 := Lib.hid (grown_heap HB2.out hg (by omega))
    cases hc : pMoney E r with
    | error fl =>
      rw [hc] at ha
      obtain rfl := ha
      refine thrown rfl ⟨HG3.out, ?_⟩
      rw [HRR.out]
      simp only [hc]
    | ok z =>
      obtain ⟨y, s⟩ := z
      rw [hc] at ha
      obtain ⟨⟨v, rfl, hv⟩, hr⟩ := ha
      obtain rfl : v = .int .i64 y := hv
      obtain ⟨_, _, -, -, hgb⟩ := money_inv hc; simp only [goodB, Bool.and_eq_true, decide_eq_true_eq] at hgb; obtain ⟨hb1, hb2⟩ := hgb
      have HR3 := Lib.hid hr
      have HC := Lib.hid hc
      obtain ⟨g0, g1, f0, f1⟩ := box_two HB3.out
      clear hr hg hc HG2 HB2 HR2 HX d0 d1
      go_wp2
      refine bodyPost_ret (v := stv ⟨3, y⟩) (by simp [results, Tryz.results98, go_sem, g0, g1]) rfl ?_
      refine ⟨grown_put2 HG3.out (p := w.heap.size + 1) (by omega) _ _, ?_⟩
      rw [HRR.out]
      simp only [HC.out]
      exact ⟨⟨_, rfl, rfl, ⟨by show (-9223372036854775808 : Int) ≤ 3; decide, by show (3 : Int) ≤ 9223372036854775807; decide⟩, ⟨by show (-9223372036854775808 : Int) ≤ y; omega, by show y ≤ 9223372036854775807; omega⟩⟩, rd_put2 HR3.out (by omega) _ _⟩
  by_cases h3 : x.1 = tCoins
  · have hRR : pSetX E x r = (match pNum E 10000 r with | .error e => .error e | .ok (n, r) => .ok (⟨4, n⟩, r)) := by unfold pSetX; rw [if_neg h0, if_neg h1, if_neg h2, if_pos h3]
    have b0 : ((mk x.1).toList == [99, 111, 118, 101, 114]) = false := lit_f h0
    have b1 : ((mk x.1).toList == [100, 101, 100, 117, 99, 116]) = false := lit_f h1
    have b2 : ((mk x.1).toList == [99, 111, 112, 97, 121]) = false := lit_f h2
    have b3 : ((mk x.1).toList == [99, 111, 105, 110, 115]) = true := lit_t h3
    have HRR := Lib.hid hRR
    clear hRR h0 h1 h2 h3
    generalize pSetX E x r = RR at *
    go_enter Tryz.func98, Tryz.ntmps98
    go_upto_region 1 with fail
    generalize (w.alloc (.cells #[.string (mk x.1), .int .i64 (x.2 : Nat)] 73)).alloc (.cells #[.int .i64 0, .int .i64 0] 66) = W2 at *
    go_wp2_with fail
    go_at_call 79
    refine (number_any q E 10000 r W2 HR2.out).mono ?_
    rintro e w3 ⟨hg, ha⟩
    have HG3 := Lib.hid (grown_tr HG2.out hg)
    have HB3 := Lib.hid (grown_heap HB2.out hg (by omega))
    cases hc : pNum E 10000 r with
    | error fl =>
      rw [hc] at ha
      obtain rfl := ha
      refine thrown rfl ⟨HG3.out, ?_⟩
      rw [HRR.out]
      simp only [hc]
    | ok z =>
      obtain ⟨y, s⟩ := z
      rw [hc] at ha
      obtain ⟨⟨v, rfl, hv⟩, hr⟩ := ha
      obtain rfl : v = .int .i64 y := hv
      obtain ⟨_, _, -, hb1, hb2, -⟩ := num_inv hc
      have HR3 := Lib.hid hr
      have HC := Lib.hid hc
      obtain ⟨g0, g1, f0, f1⟩ := box_two HB3.out
      clear hr hg hc HG2 HB2 HR2 HX d0 d1
      go_wp2
      refine bodyPost_ret (v := stv ⟨4, y⟩) (by simp [results, Tryz.results98, go_sem, g0, g1]) rfl ?_
      refine ⟨grown_put2 HG3.out (p := w.heap.size + 1) (by omega) _ _, ?_⟩
      rw [HRR.out]
      simp only [HC.out]
      exact ⟨⟨_, rfl, rfl, ⟨by show (-9223372036854775808 : Int) ≤ 4; decide, by show (4 : Int) ≤ 9223372036854775807; decide⟩, ⟨by show (-9223372036854775808 : Int) ≤ y; omega, by show y ≤ 9223372036854775807; omega⟩⟩, rd_put2 HR3.out (by omega) _ _⟩
  · have hRR : pSetX E x r = .error (4, x.2) := by unfold pSetX; rw [if_neg h0, if_neg h1, if_neg h2, if_neg h3]
    have b0 : ((mk x.1).toList == [99, 111, 118, 101, 114]) = false := lit_f h0
    have b1 : ((mk x.1).toList == [100, 101, 100, 117, 99, 116]) = false := lit_f h1
    have b2 : ((mk x.1).toList == [99, 111, 112, 97, 121]) = false := lit_f h2
    have b3 : ((mk x.1).toList == [99, 111, 105, 110, 115]) = false := lit_f h3
    have HRR := Lib.hid hRR
    clear hRR h0 h1 h2 h3
    generalize pSetX E x r = RR at *
    go_enter Tryz.func98, Tryz.ntmps98
    go_upto_region 1 with fail
    generalize (w.alloc (.cells #[.string (mk x.1), .int .i64 (x.2 : Nat)] 73)).alloc (.cells #[.int .i64 0, .int .i64 0] 66) = W2 at *
    go_wp2_with (first | (go_at_call 65; refine (HF.out _).mono ?_; rintro e w3 ⟨rfl, hb3⟩; have HB3 := Lib.hid hb3; clear hb3))
    refine ⟨rfl, grown_tr HG2.out (grown_of HB3.out), ?_⟩
    rw [HRR.out]
end Go.Proofs.YtoibhgoaibjopaaGreatDoor.Pl
end

/-
  What the reader's sets does, as a contract.
-/
section
set_option linter.unusedSimpArgs false
set_option linter.unusedVariables false
set_option maxRecDepth 100000
namespace Go.Proofs.YtoibhgoaibjopaaGreatDoor.Pl
open Go.RowKit
open Wo (Wd WdsAt box_cell box_two keepB heap_far)

/-! ### As it goes: word by word -/
def cSets (E : Nat) : Nat → List St → List Wd → R (List St)
  | 0, _, l => .error (4, pos E l)
  | f + 1, acc, l =>
    if (tkW E l).1 = tEnd ∧ acc ≠ [] then .ok (acc, l.tail)
    else match pSetX E (tkW E l) l.tail with
      | .error e => .error e
      | .ok (s, r) => if s.what ∈ acc.map (·.what) then .error (12, (tkW E l).2) else cSets E f (acc ++ [s]) r
theorem setX_shorter {E : Nat} {l r : List Wd} {s : St} (h : pSetX E (tkW E l) l.tail = .ok (s, r)) : r.length < l.length := by
  rw [← pSet_tk] at h
  obtain ⟨-, a, rfl, h2⟩ := set_once h
  have : 1 ≤ a.length := by
    cases a with
    | nil =>
      obtain ⟨t, ws, hw, -⟩ := setW_head s
      rw [hw, sz_cons] at h2
      simp [szW] at h2
    | cons x y => simp
  simp; omega
theorem pos_tk (E : Nat) (l : List Wd) : pos E l = (tkW E l).2 := by cases l <;> rfl
theorem cSets_p (E : Nat) : ∀ (f : Nat) (acc : List St) (l : List Wd), l.length < f → (acc = [] ∨ (tkW E l).1 ≠ tEnd) → cSets E f acc l = pSets E f acc l
  | 0, _, _, h, _ => by omega
  | f + 1, acc, l, h, hh => by
    unfold cSets pSets
    rw [if_neg (by rintro ⟨h1, h2⟩; rcases hh with hh | hh; exact h2 hh; exact hh h1), ← pSet_tk]
    cases hs : pSet E l with
    | error e => rfl
    | ok z =>
      obtain ⟨s, r⟩ := z
      have hlt := setX_shorter (by rw [← pSet_tk]; exact hs)
      dsimp only
      rw [pos_tk]
      by_cases hw : s.what ∈ acc.map (·.what)
      · rw [if_pos hw, if_pos hw]
      · rw [if_neg hw, if_neg hw]
        cases r with
        | nil =>
          cases f with
          | zero => exfalso; simp only [List.length_nil, List.length_cons] at hlt; omega
          | succ f => simp [cSets, tkW, pSetX, tEnd, tCover, tDed, tCopay, tCoins]
        | cons y q =>
          obtain ⟨x, a⟩ := y
          dsimp only
          by_cases hx : x = tEnd
          · rw [if_pos hx]
            cases f with
            | zero => exfalso; simp only [List.length_nil, List.length_cons] at hlt; omega
            | succ f => unfold cSets; rw [if_pos ⟨hx, by simp⟩]; rfl
          · rw [if_neg hx]
            exact cSets_p E f _ _ (by omega) (Or.inr hx)

/-! ### Rows of sets -/
def scs : List St → List Value
  | [] => []
  | x :: r => .int .i64 x.what :: .int .i64 x.n :: scs r
theorem scs_app (a b : List St) : scs (a ++ b) = scs a ++ scs b := by induction a <;> simp_all [scs]
theorem scs_at : ∀ (a : List St) (j : Nat) (x : St), a[j]? = some x → (scs a)[j * 2]? = some (.int .i64 x.what) ∧ (scs a)[j * 2 + 1]? = some (.int .i64 x.n)
  | [], j, x, h => by simp at h
  | y :: r, 0, x, h => by simp at h; subst h; simp [scs]
  | y :: r, j + 1, x, h => by
    have := scs_at r j x (by simpa using h)
    rw [show (j + 1) * 2 = j * 2 + 2 by omega, show j * 2 + 2 + 1 = j * 2 + 1 + 2 by omega]
    simpa [scs] using this
theorem sts_of_own {K : Nat → Prop} {w : World} {base : Nat} {v : Value} {ss : List St} (h : w.ownsRow base 66 2 v ss.length (scs ss)) (hK : ∀ b, v.ownBlock = some b → K b) (hl : ss.length ≤ Big) (ho : ∀ x ∈ ss, Cm.I64 x.what ∧ Cm.I64 x.n) : StsAt K w v ss := by
  obtain ⟨hln, h⟩ := h
  rcases h with ⟨rfl, h0⟩ | ⟨g, cap, cur, rfl, _, hg, h1, h2, hs, ht⟩
  · obtain rfl := List.length_eq_zero_iff.1 h0
    exact StsAt.nil _ _
  · refine ⟨_, cap, rfl, h1, h2, hl, ho, Or.inr ⟨g, 0, rfl, hK g rfl, (Array.getElem?_eq_some_iff.1 hg).1, fun j x hj => ?_⟩⟩
    have hjl : j < ss.length := (List.getElem?_eq_some_iff.1 hj).1
    obtain ⟨e1, e2⟩ := scs_at ss j x hj
    rw [← ht, List.getElem?_take] at e1 e2
    rw [if_pos (by omega)] at e1 e2
    refine ⟨?_, ?_⟩
    · rw [Nat.zero_add, cell_of_row w g _ cur _ (0, 0) hg]; simpa using e1
    · rw [Nat.zero_add, cell_of_row w g _ cur _ (0, 0) hg]; simpa using e2
theorem own_form {w : World} {B e z : Nat} {v : Value} {n : Nat} {xs : List Value} (h : w.ownsRow B e z v n xs) : ∃ a c, v = .slice a n c ∧ n ≤ c ∧ c ≤ 9223372036854775807 := by
  rcases h.2 with ⟨rfl, rfl⟩ | ⟨g, c, cur, rfl, _, _, h1, h2, _⟩
  · exact ⟨_, _, rfl, by omega, by omega⟩
  · exact ⟨_, c, rfl, h1, by unfold maxLen at h2; exact h2⟩
theorem rd_row {q E : Nat} {l : List Wd} {w w' : World} {row : Option Nat} (h : RdAt q E l w) (hg : w.grownBy w' row) (hr : ∀ k, row = some k → q < k) : RdAt q E l w' := by
  obtain ⟨v, h1, h2, h3⟩ := h
  refine ⟨v, ?_, h2.move (moves_grown hg fun b _ hk => ⟨hk, fun e => ?_⟩), h3⟩
  · rw [hg.block q (Array.getElem?_eq_some_iff.1 h1).1 (fun e => Nat.lt_irrefl _ (hr q e.symm))]; exact h1
  · have := hr b e.symm; have : b < q := hk; omega
theorem grown_row {w W W' : World} {q : Option Nat} {row : Option Nat} (h : w.grownBy W q) (h' : W.grownBy W' row) (hr : ∀ k, row = some k → w.heap.size ≤ k) : w.grownBy W' q :=
  ⟨h'.os.trans h.os, h'.tape.trans h.tape, h'.output.trans h.output, Nat.le_trans h.size h'.size, fun k hk hne => (h'.block k (Nat.lt_of_lt_of_le hk h.size) (fun e => by have := hr k e.symm; omega)).trans (h.block k hk hne)⟩
theorem own_rd {w w' : World} {B e z q : Nat} {v : Value} {n : Nat} {xs : List Value} (h : w.ownsRow B e z v n xs) (hg : w.grownBy w' (some q)) (hq : q < B) : w'.ownsRow B e z v n xs :=
  h.kept hg (by
    cases hv : v.ownBlock with
    | none => exact Or.inl rfl
    | some k => exact Or.inr fun e => by have := (h.lt k hv).1; have : k = q := Option.some.inj e; omega)
theorem infoS : ∃ i, Tryz.prog.info? 66 = some i ∧ i.zero = some (.agg #[.int .i64 0, .int .i64 0]) ∧ i.size = 2 ∧ i.bytes = 16 := by
  have hi : (Tryz.prog.info? 66).map (fun i => (i.zero, i.size, i.bytes)) = some (some (.agg #[.int .i64 0, .int .i64 0]), 2, 16) := by kernel_rfl
  cases hq : Tryz.prog.info? 66 with
  | none => rw [hq] at hi; cases hi
  | some i =>
    rw [hq] at hi
    simp only [Option.map_some, Option.some.injEq, Prod.mk.injEq] at hi
    exact ⟨i, rfl, hi⟩
def Stsv (B : Nat) (ss : List St) (v : Value) (w : World) : Prop := StsAt (fun b => B ≤ b) w v ss
set_option maxHeartbeats 16000000 in
theorem sets_any (q E : Nat) (l : List Wd) (w : World) (h : RdAt q E l w) :
    Calls Tryz.prog 81 #[.pointer (some ⟨q, 0, none⟩)] w fun e w' => Ans q E w (Stsv w.heap.size) (pSets E (l.length + 1) [] l) e w' := by
  have hq := h.lt
  have hcnt := h.cnt
  have HR0 := Lib.hid h
  have hRR := cSets_p E (l.length + 1) [] l (Nat.lt_succ_self _) (Or.inl rfl)
  obtain ⟨iS, s1, s2, s3, s4⟩ := infoS
  have HRR : Hid (pSets E (l.length + 1) [] l = cSets E (l.length + 1) [] l) := hRR.symm
  clear hRR h
  generalize pSets E (l.length + 1) [] l = RR at *
  go_enter Tryz.func81, Tryz.ntmps81
  go_wp2
  go_loopg [3] (l.length + 1) (fun g v wr => ∃ (acc : List St) (l' : List Wd), l'.length < g ∧ acc.length + g ≤ l.length + 1 ∧ Hid (wr.ownsRow w.heap.size 66 2 v acc.length (scs acc)) ∧ Hid (RdAt q E l' wr) ∧ Hid (w.grownBy wr (some q)) ∧ Hid (RR = cSets E g acc l') ∧ Hid (∀ x ∈ acc, Cm.I64 x.what ∧ Cm.I64 x.n))
  case atStart => exact ⟨[], l, by omega, by simp, World.ownsRow_nil _ _ _ _, HR0.out, grown_of (Below.refl _ w), HRR.out, by show ∀ x ∈ [], _; simp⟩
  case round =>
    clear HRR HR0
    obtain ⟨acc, l', hl', hal, HO, HR, HG, HRR, HI⟩ := hrel
    obtain ⟨va, vc, rfl, hv1, hv2⟩ := own_form HO.out
    have hsz := HG.out.size
    have HT := Lib.hid (take_any q E l' wr HR.out)
    have HFF := Lib.hid fun W => fault_any 12 (tkW E l') W
    obtain ⟨f, rfl⟩ : ∃ f, gk = f + 1 := ⟨gk - 1, by omega⟩
    have hun : cSets E (f + 1) acc l' = if (tkW E l').1 = tEnd ∧ acc ≠ [] then .ok (acc, l'.tail) else match pSetX E (tkW E l') l'.tail with | .error e => .error e | .ok (s, r) => if s.what ∈ acc.map (·.what) then .error (12, (tkW E l').2) else cSets E f (acc ++ [s]) r := rfl
    have HUN := Lib.hid (HRR.out.trans hun)
    have HSH := Lib.hid fun s r (hs : pSetX E (tkW E l') l'.tail = .ok (s, r)) => setX_shorter hs
    clear hun HRR HR
    generalize tkW E l' = x at *
    go_wp2_with fail
    go_at_call 63
    refine HT.out.mono ?_
    rintro e w1 ⟨rfl, hr, hg⟩
    have hbw := below_alloc w1 (.cells #[.string (mk x.1), .int .i64 (x.2 : Nat)] 73)
    have hs1 := hg.size
    have HR1 := Lib.hid (hr.grw hbw)
    have HG1 := Lib.hid (grown_tr HG.out (grown_alloc hg (.cells #[.string (mk x.1), .int .i64 (x.2 : Nat)] 73)))
    have HO1 := Lib.hid ((own_rd HO.out hg (by omega)).alloc (.cells #[.string (mk x.1), .int .i64 (x.2 : Nat)] 73))
    have HX := Lib.hid (heap_alloc_new w1 (.cells #[.string (mk x.1), .int .i64 (x.2 : Nat)] 73))
    obtain ⟨d0, d1, -, -⟩ := box_two HX.out
    have hp4 : w1.heap.size ≠ q := by omega
    clear hr hg hbw HT HG HO
    go_upto_region 3 with fail
    generalize w1.alloc (.cells #[.string (mk x.1), .int .i64 (x.2 : Nat)] 73) = W1 at *
    generalize w1.heap.size = p4 at *
    by_cases hend : x.1 = tEnd ∧ acc ≠ []
    · have b0 : ((mk x.1).toList == [101, 110, 100]) = true := lit_t hend.1
      have hal0 : 0 < acc.length := List.length_pos_iff.2 hend.2
      have hres := HUN.out
      rw [if_pos hend] at hres
      have HRES := Lib.hid hres
      clear hend hres HUN
      go_wp2
      go_ret
      refine ⟨HG1.out, ?_⟩
      rw [HRES.out]
      exact ⟨⟨_, rfl, sts_of_own HO1.out (fun b hb => (HO1.out.lt b hb).1) (by show _ ≤ 281474976710656; omega) HI.out⟩, HR1.out⟩
    · have hres := HUN.out
      rw [if_neg hend] at hres
      have HRES := Lib.hid hres
      have HND := Lib.hid hend
      clear hres HUN hend
      have hcase : ((mk x.1).toList == [101, 110, 100]) = false ∨ (((mk x.1).toList == [101, 110, 100]) = true ∧ ¬ 0 < acc.length) := by
        by_cases e : x.1 = tEnd
        · exact Or.inr ⟨lit_t e, by
            cases hacc : acc with
            | nil => simp
            | cons y z => exact absurd ⟨e, by rw [hacc]; simp⟩ HND.out⟩
        · exact Or.inl (lit_f e)
      have HSA := Lib.hid (set_any q E x l'.tail W1 HR1.out)
      clear HND
      rcases hcase with b0 | ⟨b0, b1⟩
      all_goals
        go_wp2_with fail
        go_at_call 98
        refine HSA.out.mono ?_
        rintro e w2 ⟨hg2, ha2⟩
        have hs2 := hg2.size
        have HG2 := Lib.hid (grown_tr HG1.out hg2)
        cases hc2 : pSetX E x l'.tail with
        | error fl =>
          rw [hc2] at ha2
          obtain rfl := ha2
          refine thrown rfl ⟨HG2.out, ?_⟩
          rw [HRES.out, hc2]
        | ok z =>
          obtain ⟨s, r⟩ := z
          rw [hc2] at ha2
          obtain ⟨⟨v, rfl, hv, hi1, hi2⟩, hr2⟩ := ha2
          obtain rfl : v = stv s := hv
          have hres := HRES.out
          rw [hc2] at hres
          have HRES2 : Hid (RR = if s.what ∈ acc.map (·.what) then .error (12, x.2) else cSets E f (acc ++ [s]) r) := hres
          have hrl := HSH.out s r hc2
          have hbx := below_alloc w2 (.cells #[.int .i64 s.what, .int .i64 s.n] 66)
          have HR3 := Lib.hid (hr2.grw hbx)
          have HG3 := Lib.hid (grown_alloc HG2.out (.cells #[.int .i64 s.what, .int .i64 s.n] 66))
          have HO3 := Lib.hid ((own_rd HO1.out hg2 (by omega)).alloc (.cells #[.int .i64 s.what, .int .i64 s.n] 66))
          have HX3 := Lib.hid (keepB (grown_heap HX.out hg2 hp4) hbx)
          have HY3 := Lib.hid (heap_alloc_new w2 (.cells #[.int .i64 s.what, .int .i64 s.n] 66))
          obtain ⟨y0, y1, -, -⟩ := box_two HY3.out
          have HI2 : Hid (Cm.I64 s.what ∧ Cm.I64 s.n) := ⟨hi1, hi2⟩
          clear hr2 hg2 hbx hc2 hres HRES HSA HSH HG2 HG1 HO1 HX HR1 hi1 hi2 d0 d1
          go_upto_region 6 with fail
          generalize w2.alloc (.cells #[.int .i64 s.what, .int .i64 s.n] 66) = W3 at *
          generalize w2.heap.size = p5 at *
          have HIS := Lib.hid (isSet_any _ acc s.what W3 (sts_of_own (K := All) HO3.out (fun _ _ => trivial) (by show _ ≤ 281474976710656; omega) HI.out))
          by_cases hm : s.what ∈ acc.map (·.what)
          · rw [decide_eq_true hm] at HIS
            have HRES3 : Hid (RR = .error (12, x.2)) := HRES2.out.trans (if_pos hm)
            clear hm HRES2
            go_wp2_with fail
            go_at_call 71
            refine HIS.out.mono ?_
            rintro e w4 ⟨rfl, hb4⟩
            obtain ⟨d0, d1, -, -⟩ := box_two (keepB HX3.out hb4)
            have HB4 := Lib.hid hb4
            clear hb4
            go_wp2_with (first | (go_at_call 65; refine (HFF.out _).mono ?_; rintro e w5 ⟨rfl, hb5⟩; have HB5 := Lib.hid hb5; clear hb5))
            refine ⟨rfl, grown_tr HG3.out (grown_of (below_trans HB4.out HB5.out)), ?_⟩
            rw [HRES3.out]
          · rw [decide_eq_false hm] at HIS
            have HRES3 : Hid (RR = cSets E f (acc ++ [s]) r) := HRES2.out.trans (if_neg hm)
            clear hm HRES2
            go_wp2_with fail
            go_at_call 71
            refine HIS.out.mono ?_
            rintro e w4 ⟨rfl, hb4⟩
            have hbz := below_alloc w4 (.cells #[.int .i64 s.what, .int .i64 s.n] 66)
            have hb5 := below_trans hb4 hbz
            obtain ⟨y0, y1, -, -⟩ := box_two (keepB HY3.out hb4)
            have HR5 := Lib.hid (HR3.out.grw hb5)
            have HG5 := Lib.hid (grown_tr HG3.out (grown_of hb5))
            have HO5 := Lib.hid (HO3.out.kept (grown_of (p := none) hb5) (by cases (Value.slice va acc.length vc).ownBlock <;> simp))
            have HNw := Lib.hid (World.news_of_block (heap_alloc_new w4 (.cells #[.int .i64 s.what, .int .i64 s.n] 66)))
            have HON : Hid (∀ z ∈ [Value.int .i64 s.what, .int .i64 s.n], z.oneCell' = true) := fun z hz => by simp at hz; rcases hz with rfl | rfl <;> rfl
            have HLN : Hid (acc.length + 1 ≤ maxLen) := by show _ ≤ _; simp only [maxLen]; omega
            have HLB : Hid ((acc.length + 1) * 16 ≤ 140737488355328) := by show _ ≤ _; omega
            clear hb4 hbz hb5 HR3 HG3 HO3 HX3 HY3 HIS HFF
            go_wp2_with (at_builtin; refine wpList_append_own_at _ (by rfl) _ _ 33 (by rfl) w.heap.size 66 iS (.agg #[.int .i64 0, .int .i64 0]) 2 16 Tryz.underlying33 s1 s2 s3 s4 (by rfl) (by omega) (.slice va acc.length vc) acc.length (scs acc) (by rfl) HO5.out ⟨w4.heap.size, 0, none⟩ 1 1 [.int .i64 s.what, .int .i64 s.n] (by rfl) (by rfl) HNw.out HON.out HLN.out HLB.out HG5.out.size ?_)
            intro v6 w6 hown hgrow hnil hat
            have HO6 : Hid (w6.ownsRow w.heap.size 66 2 v6 (acc ++ [s]).length (scs (acc ++ [s]))) := by show World.ownsRow _ _ _ _ _ _ _; rw [scs_app, List.length_append]; exact hown
            have HR6 := Lib.hid (rd_row HR5.out hgrow fun k hk => by have := (HO5.out.lt k hk).1; omega)
            have HG6 := Lib.hid (grown_row HG5.out hgrow fun k hk => (HO5.out.lt k hk).1)
            clear hown hgrow hnil hat HNw HON HLN HLB HO5 HR5 HG5
            go_wp2
            go_roundg f
            case rel => exact ⟨acc ++ [s], r, by omega, by simp; omega, HO6.out, HR6.out, HG6.out, HRES3.out, fun z hz => by rcases List.mem_append.1 hz with hz | hz; exact HI.out z hz; simp at hz; subst hz; exact HI2.out⟩
            case measure => omega
end Go.Proofs.YtoibhgoaibjopaaGreatDoor.Pl
end
