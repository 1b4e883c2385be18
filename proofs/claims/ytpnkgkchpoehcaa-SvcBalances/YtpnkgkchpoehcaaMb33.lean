/-
  Texts put together (merge.py): VCps, VLight, VSum.
-/
import Derived.BigQuiet
import Derived.Test.YtpnkgkchpoehcaaMb10
import Derived.Test.YtpnkgkchpoehcaaMb32
/-
  Claims of remittances as rows in memory; what the reference's Weight answers of them: a number.
-/
section
set_option linter.unusedSimpArgs false
set_option linter.unusedVariables false
set_option maxRecDepth 100000
namespace Go.Proofs.Ytpnkgkchpoehcaa.Sv
open Go.RowKit
open Bk (keepB below_alloc below_trans alloc_new)

def CpCells (w : World) (b o : Nat) (x : Cp) (m : Value) : Prop := w.cell? ⟨b, o, none⟩ = some (.string (mk x.id)) ∧ w.cell? ⟨b, o + 1, none⟩ = some (.int .i64 x.st) ∧ w.cell? ⟨b, o + 2, none⟩ = some (.int .i64 x.bi) ∧ w.cell? ⟨b, o + 3, none⟩ = some (.int .i64 x.paid) ∧ w.cell? ⟨b, o + 4, none⟩ = some (.int .i64 x.mem) ∧ w.cell? ⟨b, o + 5, none⟩ = some m
theorem CpCells.of {w w' : World} {b o : Nat} {x : Cp} {m : Value} (h : CpCells w b o x m) (he : w'.heap[b]? = w.heap[b]?) : CpCells w' b o x m := by
  obtain ⟨h0, h1, h2, h3, h4, h5⟩ := h
  refine ⟨?_, ?_, ?_, ?_, ?_, ?_⟩ <;> rw [World.cell?_of_block (w := w) he] <;> assumption
def CpsAt (K : Nat → Prop) (w : World) (v : Value) (l : List Cp) : Prop :=
  ∃ a c, v = .slice a l.length c ∧ l.length ≤ c ∧ c ≤ maxLen ∧ (l = [] ∨ ∃ b o, a = some ⟨b, o, none⟩ ∧ K b ∧ b < w.heap.size ∧ ∀ (j : Nat) x, l[j]? = some x → ∃ m, CpCells w b (o + j * 6) x m ∧ SvsAt K w m x.svs)
theorem CpsAt.move {K K' : Nat → Prop} {w w' : World} {v : Value} {l : List Cp} (h : CpsAt K w v l) (hm : Moves K K' w w') : CpsAt K' w' v l := by
  obtain ⟨a, c, rfl, h1, h2, h3⟩ := h
  refine ⟨a, c, rfl, h1, h2, h3.imp id ?_⟩
  rintro ⟨b, o, rfl, hk, hb, hc⟩
  obtain ⟨k', hh⟩ := hm.2 b hb hk
  refine ⟨b, o, rfl, k', Nat.lt_of_lt_of_le hb hm.1, fun j x hj => ?_⟩
  obtain ⟨m, q1, q2⟩ := hc j x hj
  exact ⟨m, q1.of hh, q2.move hm⟩
theorem CpsAt.grw {w w' : World} {v : Value} {l : List Cp} (h : CpsAt All w v l) (hb : Below w.heap.size w w') : CpsAt All w' v l := h.move (Below.moves hb)
theorem CpsAt.form {K : Nat → Prop} {w : World} {v : Value} {xs : List Cp} (h : CpsAt K w v xs) : ∃ a c, v = .slice a xs.length c ∧ xs.length ≤ c ∧ c ≤ 9223372036854775807 := by
  obtain ⟨a, c, rfl, h1, h2, _⟩ := h
  exact ⟨a, c, rfl, h1, by unfold maxLen at h2; exact h2⟩
theorem CpsAt.get {K : Nat → Prop} {w : World} {a : Option Addr} {n c : Nat} {ls : List Cp} (h : CpsAt K w (.slice a n c) ls) (k : Nat) (hk : k < ls.length) :
    ∃ b o m, a = some ⟨b, o, none⟩ ∧ b < w.heap.size ∧ ls[k]? = some ls[k] ∧ CpCells w b (o + k * 6) ls[k] m ∧ SvsAt K w m ls[k].svs := by
  obtain ⟨a', c', he, h1, h2, h3⟩ := h
  have ha : a = a' := by injection he
  subst ha
  rcases h3 with h | ⟨b, o, ha, hk', hb, hc⟩
  · subst h; simp at hk
  · have hx := List.getElem?_eq_getElem hk
    obtain ⟨m, q1, q2⟩ := hc k _ hx
    exact ⟨b, o, m, ha, hb, hx, q1, q2⟩
/-- Lengths that memory can hold. -/
def LenS (s : Sr) : Prop := s.proc.length ≤ 281474976710656 ∧ s.cas.length ≤ 281474976710656 ∧ ∀ c ∈ s.cas, c.grp.length ≤ 281474976710656
def LenC (x : Cp) : Prop := x.id.length ≤ 281474976710656 ∧ x.svs.length ≤ 281474976710656 ∧ ∀ s ∈ x.svs, LenS s

set_option maxHeartbeats 8000000 in
theorem weight_any (M : Int) (hM0 : 0 ≤ M) (hM : M ≤ 3000) (v : Value) (l : List Cp) (w : World) (h : CpsAt All w v l) (hz : ∀ x ∈ l, LenC x) :
    Calls Try.prog 25 #[v, .int .i64 M] w fun e w' => (∃ n : Int, e = .returned (.int .i64 n)) ∧ Below w.heap.size w w' := by
  have HV : Hid (∀ W, Below w.heap.size w W → CpsAt All W v l) := fun W hW => h.grw hW
  have HZ := Lib.hid hz
  obtain ⟨a, cap, rfl, h1, h2⟩ := CpsAt.form h
  clear h hz
  go_enter Try.func25, Try.ntmps25
  go_wp2
  go_loopg [5, 6] (l.length) (fun gg n i wr => ∃ (k : Nat) (m : Int), k ≤ l.length ∧ gg = l.length - k ∧ i = .int .i64 k ∧ n = .int .i64 m ∧ 0 ≤ m ∧ m ≤ 4611686018427387904 ∧ Hid (Below w.heap.size w wr))
  case atStart => exact ⟨0, 0, Nat.zero_le _, rfl, rfl, rfl, by omega, by omega, Below.refl _ _⟩
  case round =>
    obtain ⟨k, m, hk, hg, rfl, rfl, hm0, hm1, HBn⟩ := hrel
    by_cases hlt : k < l.length
    case neg =>
      have hlt' : ¬ (k : Int) < (l.length : Int) := by omega
      go_wp2
      go_ret
      exact ⟨⟨m, rfl⟩, HBn.out⟩
    by_cases hm3 : m ≤ M
    case neg =>
      have d1 : decide (m ≤ M) = false := decide_eq_false hm3
      go_wp2
      go_ret
      exact ⟨⟨m, rfl⟩, HBn.out⟩
    obtain ⟨b, o, mv, rfl, -, hx, hc, hr⟩ := CpsAt.get (HV.out _ HBn.out) k hlt
    obtain ⟨z1, z2, z3⟩ := HZ.out _ (List.mem_of_getElem? hx)
    have HZL := Lib.hid z3
    obtain ⟨ar, cr, rfl, g1, g2⟩ := SvsAt.form hr
    have hi1 : k < l.length := hlt
    generalize l[k] = x at *
    obtain ⟨wo, rfl⟩ : ∃ z, z = wr := ⟨_, rfl⟩
    have HBo := Lib.hid HBn.out
    obtain ⟨c0, c1, c2, c3, c4, c5⟩ := id hc
    have hbb := World.block_lt_of_cell? wo _ c0
    have HXK : Hid (∀ W, Below wo.heap.size wo W → CpCells W b (o + k * 6) x (.slice ar x.svs.length cr) ∧ SvsAt All W (.slice ar x.svs.length cr) x.svs) := fun W hW => ⟨hc.of (hW.block b hbb), hr.grw hW⟩
    have s0 := mk_size x.id
    rw [← s0] at z1
    clear hx hc hr z3 s0 hbb
    have d1 : decide (m ≤ M) = true := decide_eq_true hm3
    go_wp2
    go_loopg [5, 7] (x.svs.length) (fun gg n i wr => ∃ (j : Nat) (m2 : Int), j ≤ x.svs.length ∧ gg = x.svs.length - j ∧ i = .int .i64 j ∧ n = .int .i64 m2 ∧ 0 ≤ m2 ∧ m2 ≤ 4611686018427387904 ∧ Hid (Below wo.heap.size wo wr))
    case atStart => exact ⟨0, _, Nat.zero_le _, rfl, rfl, rfl, by omega, by omega, Below.refl _ _⟩
    case round =>
      obtain ⟨j, m2, hj, hgj, rfl, rfl, hm20, hm21, HB2⟩ := hrel
      have HBw : Hid (Below w.heap.size w wr) := HBo.out.trans (HB2.out.mono HBo.out.size)
      obtain ⟨⟨x0, x1, x2, x3, x4, x5⟩, hr⟩ := HXK.out wr HB2.out
      by_cases hltj : j < x.svs.length
      case neg =>
        have hltj' : ¬ (j : Int) < (x.svs.length : Int) := by omega
        clear hr
        go_wp2
        go_roundg (l.length - (k + 1))
        case rel => exact ⟨k + 1, m2, by omega, rfl, by go_num, rfl, hm20, hm21, HBw.out⟩
        case measure => omega
      by_cases hm23 : m2 ≤ M
      case neg =>
        have d2 : decide (m2 ≤ M) = false := decide_eq_false hm23
        clear hr
        go_wp2
        go_roundg (l.length - (k + 1))
        case rel => exact ⟨k + 1, m2, by omega, rfl, by go_num, rfl, hm20, hm21, HBw.out⟩
        case measure => omega
      obtain ⟨b2, o2, mc, rfl, -, hb2, hy, hcy, hcas⟩ := SvsAt.get hr j hltj
      obtain ⟨y1, y2, y3⟩ := HZL.out _ (List.mem_of_getElem? hy)
      have HZC := Lib.hid y3
      obtain ⟨ac, cc, rfl, p1, p2⟩ := hcas.form
      have hi2 : j < x.svs.length := hltj
      generalize x.svs[j] = s at *
      obtain ⟨wi, rfl⟩ : ∃ z, z = wr := ⟨_, rfl⟩
      obtain ⟨e0, e1, e2, e3⟩ := id hcy
      have HYK : Hid (∀ W, Below wi.heap.size wi W → SrCells W b2 (o2 + j * 4) s (.slice ac s.cas.length cc) ∧ CasAt All W (.slice ac s.cas.length cc) s.cas ∧ CpCells W b (o + k * 6) x (.slice (some ⟨b2, o2, none⟩) x.svs.length cr)) := fun W hW => ⟨hcy.of (hW.block b2 hb2), hcas.grw hW, (HXK.out W (HB2.out.trans (hW.mono HB2.out.size))).1⟩
      have HBi := Lib.hid HB2.out
      have t0 := mk_size s.proc
      rw [← t0] at y1
      clear hy hcy hcas hr y3 t0 hb2
      have d2 : decide (m2 ≤ M) = true := decide_eq_true hm23
      have HD := Lib.hid fun q => (⟨rfl, rfl, rfl, Nat.le_refl _, fun _ _ => rfl⟩ : Below wi.heap.size wi (wi.drewN q))
      go_wp2_with fail
      go_quiet (fail)
      have HB3 := Lib.hid (HD.out nq)
      generalize wi.drewN nq = wj at *
      obtain ⟨⟨e0, e1, e2, e3⟩, -, ⟨x0, x1, x2, x3, x4, x5⟩⟩ := HYK.out wj HB3.out
      go_wp2
      go_loopg [5, 8] (s.cas.length) (fun gg n i wr => ∃ (i3 : Nat) (m3 : Int), i3 ≤ s.cas.length ∧ gg = s.cas.length - i3 ∧ i = .int .i64 i3 ∧ n = .int .i64 m3 ∧ 0 ≤ m3 ∧ m3 ≤ 4611686018427387904 ∧ Hid (Below wi.heap.size wi wr))
      case atStart => exact ⟨0, _, Nat.zero_le _, rfl, rfl, rfl, by omega, by omega, HB3.out⟩
      case round =>
        obtain ⟨i3, m3, hi, hgi, rfl, rfl, hm30, hm31, HB4⟩ := hrel
        have HBo4 : Hid (Below wo.heap.size wo wr) := HBi.out.trans (HB4.out.mono HBi.out.size)
        obtain ⟨⟨e0, e1, e2, e3⟩, hcas, ⟨x0, x1, x2, x3, x4, x5⟩⟩ := HYK.out wr HB4.out
        by_cases hlti : i3 < s.cas.length
        case neg =>
          have hlti' : ¬ (i3 : Int) < (s.cas.length : Int) := by omega
          clear hcas
          go_wp2
          go_roundg (x.svs.length - (j + 1))
          case rel => exact ⟨j + 1, m3, by omega, rfl, by go_num, rfl, hm30, hm31, HBo4.out⟩
          case measure => omega
        by_cases hm33 : m3 ≤ M
        case neg =>
          have d3 : decide (m3 ≤ M) = false := decide_eq_false hm33
          clear hcas
          go_wp2
          go_roundg (x.svs.length - (j + 1))
          case rel => exact ⟨j + 1, m3, by omega, rfl, by go_num, rfl, hm30, hm31, HBo4.out⟩
          case measure => omega
        obtain ⟨b3, o3, rfl, -, -, hu, hcu⟩ := CasAt.get hcas i3 hlti
        have hgl := HZC.out _ (List.mem_of_getElem? hu)
        have hi3 : i3 < s.cas.length := hlti
        generalize s.cas[i3] = u at *
        obtain ⟨f0, f1, f2⟩ := hcu
        have t1 := mk_size u.grp
        rw [← t1] at hgl
        clear hu hcas t1
        have d3 : decide (m3 ≤ M) = true := decide_eq_true hm33
        go_wp2
        go_roundg (s.cas.length - (i3 + 1))
        case rel => exact ⟨i3 + 1, _, by omega, rfl, by go_num, rfl, by omega, by omega, HB4.out⟩
        case measure => omega
end Go.Proofs.Ytpnkgkchpoehcaa.Sv
end

/-
  What layer 20's light answers, as a contract; rows of claims of remittances that a law makes.
-/
section
set_option linter.unusedSimpArgs false
set_option linter.unusedVariables false
set_option maxRecDepth 100000
namespace Go.Proofs.Ytpnkgkchpoehcaa.Sv
open Go.RowKit
open Bk (keepB below_alloc below_trans alloc_new)

theorem i64_wf {a : Int} (h : (Lit.int .i64 a).wf = true) : I64 a := by
  simpa [I64, Lit.wf, IntKind.min, IntKind.max, IntKind.signed, IntKind.bits] using h
theorem light_any (l : List Cp) (v : Value) (w : World) (h : CpsAt All w v l) (hz : ∀ x ∈ l, LenC x) :
    Calls Try.prog 13 #[v] w fun e w' => (∃ b, e = .returned (.bool b)) ∧ Below w.heap.size w w' := by
  have HW := Lib.hid (weight_any 600 (by decide) (by decide) v l w h hz)
  obtain ⟨a, c, rfl, -, -⟩ := h.form
  clear h
  go_enter Try.func13, Try.ntmps13
  go_wp2_with (first | (go_at_call 25; refine HW.out.mono ?_; rintro e w1 ⟨⟨n, rfl⟩, hb⟩; have HB1 := Lib.hid hb; clear hb))
  all_goals
    go_ret
    exact ⟨⟨_, rfl⟩, HB1.out⟩
theorem cps_one {w : World} {q : Nat} {x : Cp} {m : Value} {T : TypeId} (h : w.heap[q]? = some (.cells (cpe x m) T (0, 0))) (hm : SvsAt All w m x.svs) : CpsAt All w (.slice (some ⟨q, 0, none⟩) 1 1) [x] := by
  refine ⟨_, _, rfl, Nat.le_refl _, by unfold maxLen; omega, Or.inr ⟨q, 0, rfl, trivial, (Array.getElem?_eq_some_iff.1 h).1, fun j y hj => ?_⟩⟩
  have hj0 : j = 0 := by have := (List.getElem?_eq_some_iff.1 hj).1; simpa using this
  subst hj0
  obtain rfl : x = y := by simpa using hj
  obtain ⟨h0, h1, h2, h3, h4, h5⟩ := six h
  exact ⟨m, ⟨h0, h1, h2, h3, h4, h5⟩, hm⟩
theorem cps_two {w : World} {q : Nat} {x y : Cp} {m n : Value} {T : TypeId} (h : w.heap[q]? = some (.cells #[.string (mk x.id), .int .i64 x.st, .int .i64 x.bi, .int .i64 x.paid, .int .i64 x.mem, m, .string (mk y.id), .int .i64 y.st, .int .i64 y.bi, .int .i64 y.paid, .int .i64 y.mem, n] T (0, 0))) (hm : SvsAt All w m x.svs) (hn : SvsAt All w n y.svs) : CpsAt All w (.slice (some ⟨q, 0, none⟩) 2 2) [x, y] := by
  refine ⟨_, _, rfl, Nat.le_refl _, by unfold maxLen; omega, Or.inr ⟨q, 0, rfl, trivial, (Array.getElem?_eq_some_iff.1 h).1, fun j z hj => ?_⟩⟩
  have e : ∀ i u, (#[.string (mk x.id), .int .i64 x.st, .int .i64 x.bi, .int .i64 x.paid, .int .i64 x.mem, m, .string (mk y.id), .int .i64 y.st, .int .i64 y.bi, .int .i64 y.paid, .int .i64 y.mem, n] : Array Value)[i]? = some u → w.cell? ⟨q, i, none⟩ = some u := fun i u hu => by
    rw [cell_of_row w q _ _ T (0, 0) h]; exact hu
  have hj2 : j = 0 ∨ j = 1 := by have := (List.getElem?_eq_some_iff.1 hj).1; simp at this; omega
  rcases hj2 with rfl | rfl
  · obtain rfl : x = z := by simpa using hj
    exact ⟨m, ⟨e 0 _ rfl, e 1 _ rfl, e 2 _ rfl, e 3 _ rfl, e 4 _ rfl, e 5 _ rfl⟩, hm⟩
  · obtain rfl : y = z := by simpa using hj
    exact ⟨n, ⟨e 6 _ rfl, e 7 _ rfl, e 8 _ rfl, e 9 _ rfl, e 10 _ rfl, e 11 _ rfl⟩, hn⟩
end Go.Proofs.Ytpnkgkchpoehcaa.Sv
end

/-
  Adjustments together, part by part; what is known of them where a claim may be.
-/
section
set_option linter.unusedSimpArgs false
set_option linter.unusedVariables false
namespace Go.Proofs.Ytpnkgkchpoehcaa.Sv
open Go.RowKit

theorem sumC_bd' : ∀ (l : List Ca), (∀ c ∈ l, Bd c.ct) → -(1125899906842624 * (l.length : Int)) ≤ sumC l ∧ sumC l ≤ 1125899906842624 * (l.length : Int)
  | [], _ => by simp [sumC]
  | c :: l, h => by
    have a := sumC_bd' l fun x hx => h x (List.mem_cons_of_mem _ hx)
    have b := h c (List.mem_cons_self ..)
    unfold Bd at b
    simp only [sumC, List.length_cons]
    push_cast
    omega
theorem totC_bd' : ∀ (l : List Sr), (∀ s ∈ l, BdS s) → -(5629499534213120 * (l.length : Int)) ≤ totC l ∧ totC l ≤ 5629499534213120 * (l.length : Int)
  | [], _ => by simp [totC]
  | s :: l, h => by
    have a := totC_bd' l fun x hx => h x (List.mem_cons_of_mem _ hx)
    obtain ⟨-, -, b5, b6⟩ := h s (List.mem_cons_self ..)
    have b := sumC_bd' s.cas b6
    simp only [totC, List.length_cons]
    push_cast
    omega
theorem sumC_bd (l : List Ca) (hl : l.length ≤ 5) (h : ∀ c ∈ l, Bd c.ct) (j : Nat) : -5629499534213120 ≤ sumC (l.drop j) ∧ sumC (l.drop j) ≤ 5629499534213120 := by
  have a := sumC_bd' (l.drop j) fun c hc => h c (List.mem_of_mem_drop hc)
  have b : (l.drop j).length ≤ 5 := by simp; omega
  omega
theorem totC_bd (l : List Sr) (hl : l.length ≤ 999) (h : ∀ s ∈ l, BdS s) (k : Nat) : -5623870034678906880 ≤ totC (l.drop k) ∧ totC (l.drop k) ≤ 5623870034678906880 := by
  have a := totC_bd' (l.drop k) fun c hc => h c (List.mem_of_mem_drop hc)
  have b : (l.drop k).length ≤ 999 := by simp; omega
  omega
theorem totC_step {l : List Sr} {k : Nat} {s : Sr} (hx : l[k]? = some s) : totC (l.drop k) = sumC s.cas + totC (l.drop (k + 1)) := by
  obtain ⟨hl, he⟩ := List.getElem?_eq_some_iff.1 hx
  rw [List.drop_eq_getElem_cons hl, he]; rfl
theorem sumC_step {l : List Ca} {k : Nat} {c : Ca} (hx : l[k]? = some c) : sumC (l.drop k) = c.ct + sumC (l.drop (k + 1)) := by
  obtain ⟨hl, he⟩ := List.getElem?_eq_some_iff.1 hx
  rw [List.drop_eq_getElem_cons hl, he]; rfl
theorem totC_end {l : List Sr} {k : Nat} (hk : l.length ≤ k) : totC (l.drop k) = 0 := by rw [List.drop_eq_nil_of_le hk]; rfl
theorem sumC_end {l : List Ca} {k : Nat} (hk : l.length ≤ k) : sumC (l.drop k) = 0 := by rw [List.drop_eq_nil_of_le hk]; rfl
open Classical in
/-- Both tell the same of whether two are the same. -/
theorem sames_any (x y : Cp) : ∃ D : Bool, (∀ (m m' : Value) (w : World), SvsAt All w m x.svs → SvsAt All w m' y.svs → Calls Try.prog 16 #[cpv x m, cpv y m'] w fun e w' => e = .returned (.bool D) ∧ Below w.heap.size w w') ∧ (∀ (m m' : Value) (w : World), SvsAt All w m x.svs → SvsAt All w m' y.svs → Calls Try.prog 12 #[cpv x m, cpv y m'] w fun e w' => e = .returned (.bool D) ∧ Below w.heap.size w w') :=
  ⟨decide (x = y), fun m m' w h h' => same_any x y m m' w h h', fun m m' w h h' => rsame_any x y m m' w h h'⟩
open Classical in
theorem same_self (x : Cp) : ∀ (m m' : Value) (w : World), SvsAt All w m x.svs → SvsAt All w m' x.svs → Calls Try.prog 12 #[cpv x m, cpv x m'] w fun e w' => e = .returned (.bool true) ∧ Below w.heap.size w w' := fun m m' w h h' => by
  have h1 := rsame_any x x m m' w h h'
  rw [decide_eq_true (rfl : x = x)] at h1
  exact h1
end Go.Proofs.Ytpnkgkchpoehcaa.Sv
end
