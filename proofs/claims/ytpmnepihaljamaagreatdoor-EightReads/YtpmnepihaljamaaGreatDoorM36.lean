/-
  Texts put together (merge.py): ERSe.
-/
import Derived.Test.YtpmnepihaljamaaGreatDoorM34
import Derived.Test.YtpmnepihaljamaaGreatDoorM21
import Derived.Test.YtpmnepihaljamaaGreatDoorM35
import Derived.Test.YtpmnepihaljamaaGreatDoorM18
/-
  What the reference's service answers, as a contract. (Written by gen_rse.py.)
-/
section
set_option linter.unusedSimpArgs false
set_option linter.unusedVariables false
set_option maxRecDepth 100000
namespace Go.Proofs.YtpmnepihaljamaaGreatDoor
open Go.RowKit
open Et
open Cm (Ln lnv ln0)
theorem SgBox.grw {p : Nat} {la : Option Addr} {n lc a : Nat} {w w' : World} (h : SgBox p la n lc a w) (hb : Below w.heap.size w w') : SgBox p la n lc a w' := keepB h hb
theorem grown_below {w W W' : World} {p : Option Nat} (h : w.grownBy W p) (hb : Below W.heap.size W W') : w.grownBy W' p :=
  ⟨hb.os.trans h.os, hb.tape.trans h.tape, hb.output.trans h.output, Nat.le_trans h.size hb.size, fun k hk hne => (hb.block k (Nat.lt_of_lt_of_le hk h.size)).trans (h.block k hk hne)⟩
theorem grown_set {w W : World} {p q j : Nat} {v : Value} (h : w.grownBy W (some p)) (hq : w.heap.size ≤ q ∨ q = p) : w.grownBy (W.setCell ⟨q, j, none⟩ v) (some p) :=
  ⟨h.os, h.tape, h.output, by simpa [World.setCell] using h.size, fun k hk hne => by
    rw [Below.heap_setCell _ _ _ _ (show k ≠ q from fun e => by subst e; rcases hq with hq | hq; (exact absurd hk (by omega)); (exact hne (by rw [hq])))]
    exact h.block k hk hne⟩
theorem grown_put6 {w W : World} {p q : Nat} (h : w.grownBy W (some p)) (hq : w.heap.size ≤ q) (a0 a1 a2 a3 a4 a5 : Value) : w.grownBy (put6 W q a0 a1 a2 a3 a4 a5) (some p) :=
  grown_set (grown_set (grown_set (grown_set (grown_set (grown_set h (Or.inl hq)) (Or.inl hq)) (Or.inl hq)) (Or.inl hq)) (Or.inl hq)) (Or.inl hq)
theorem SgBox.set {p : Nat} {la : Option Addr} {n lc a b : Nat} {w : World} (h : SgBox p la n lc a w) (v : Value) (hv : v = .int .i64 (b : Int)) : SgBox p la n lc b (w.setCell ⟨p, 1, none⟩ v) := by
  subst hv
  unfold SgBox
  rw [heap_set h]; rfl
theorem at_drop {l : List Sg} {k : Nat} {g : Sg} {r : List Sg} (h : l.drop k = g :: r) : ∃ hk : k < l.length, l[k] = g ∧ l.drop (k + 1) = r := by
  have hk : k < l.length := by
    rcases Nat.lt_or_ge k l.length with h' | h'
    · exact h'
    · rw [List.drop_eq_nil_of_le h'] at h; cases h
  rw [drop_cons hk] at h
  simp only [List.cons.injEq] at h
  exact ⟨hk, h⟩
theorem cell_grown {w W : World} {p b o : Nat} {u : Value} (h : w.cell? ⟨b, o, none⟩ = some u) (hG : w.grownBy W (some p)) (hne : b ≠ p) : W.cell? ⟨b, o, none⟩ = some u := by
  have hb : b < w.heap.size := World.block_lt_of_cell? _ _ h
  have := hG.block b hb (fun e => hne (Option.some.inj e))
  rw [← h]
  simp only [World.cell?, this]
theorem seg_at {p : Nat} {K : Nat → Prop} (hKp : ∀ b, K b → b ≠ p) {w : World} {b o n lc : Nat} {l : List Sg} (hS : SgAt K w (.slice (some ⟨b, o, none⟩) n lc) l) {k : Nat} (hk : k < l.length) (hne : l[k] ≠ []) : ∃ be oe ec, (l[k]).length ≤ ec ∧ ec ≤ 9223372036854775807 ∧ (∀ W, w.grownBy W (some p) → W.cell? ⟨b, o + k, none⟩ = some (.slice (some ⟨be, oe, none⟩) (l[k]).length ec)) ∧ ∀ i ps, (l[k])[i]? = some ps → ∃ ta tc, ps.length ≤ tc ∧ tc ≤ 9223372036854775807 ∧ ∀ W, w.grownBy W (some p) → W.cell? ⟨be, oe + i, none⟩ = some (.slice ta ps.length tc) ∧ TxAt K W (.slice ta ps.length tc) ps := by
  obtain ⟨a1, c1, e1, -, -, h0 | ⟨b1, o1, e2, hK, -, hall⟩⟩ := hS
  · rw [h0] at hk; simp at hk
  simp only [Value.slice.injEq] at e1
  obtain ⟨rfl, -, -⟩ := e1
  simp only [Option.some.injEq, Addr.mk.injEq, and_true] at e2
  obtain ⟨rfl, rfl⟩ := e2
  obtain ⟨u, hu, ha, hc, rfl, h1, h2, h3 | ⟨be, oe, rfl, hKe, -, helt⟩⟩ := hall k _ (List.getElem?_eq_getElem hk)
  · exact absurd h3 hne
  refine ⟨be, oe, hc, h1, by unfold maxLen at h2; omega, fun W hG => cell_grown hu hG (hKp _ hK), fun i ps hi => ?_⟩
  obtain ⟨v, hv, hT⟩ := helt i ps hi
  obtain ⟨ta, tc, rfl, g1, g2, -⟩ := id hT
  exact ⟨ta, tc, g1, by unfold maxLen at g2; omega, fun W hG => ⟨cell_grown hv hG (hKp _ hKe), TxAt.move hT (moves_grown hG fun b _ hk => ⟨hk, fun e => hKp b hk (Option.some.inj e)⟩)⟩⟩
theorem sv_form {l : List Sg} (h : isB l tSV 4 1 = true) : ∃ q e1 y2 y3 r, l = [q, e1, [y2], [y3]] :: r ∧ q.headD [] = tSV := by
  unfold isB at h
  simp only [Bool.and_eq_true, Bool.not_eq_true', decide_eq_true_eq] at h
  obtain ⟨h0, h1, h2, h3⟩ := h
  match l, h0, h1, h2, h3 with
  | [q, e1, e2, e3] :: r, _, _, h2, h3 =>
    simp only [List.headD_cons, List.tail_cons, allBut, Bool.and_eq_true, Bool.or_eq_true, decide_eq_true_eq, and_true] at h3
    obtain ⟨-, h4, h5⟩ := h3
    have k2 : e2.length = 1 := by rcases h4 with h | h; (exact absurd h (by decide)); exact h
    have k3 : e3.length = 1 := by rcases h5 with h | h; (exact absurd h (by decide)); exact h
    match e2, e3, k2, k3 with
    | [y2], [y3], _, _ => exact ⟨q, e1, y2, y3, r, rfl, h2⟩
theorem rsv_no {l : List Sg} (h : isB l tSV 4 1 = false) : svE l = 4 := by
  have : dnOk l = false := by
    cases hd : dnOk l with
    | false => rfl
    | true =>
      unfold dnOk at hd
      simp only [Bool.and_eq_true, decide_eq_true_eq] at hd
      obtain ⟨h1, -, -, h2, h3⟩ := hd
      obtain ⟨q, g, r, rfl, hg, hq⟩ := beh_form h1
      match g, hg with
      | [e1, e2, e3], _ =>
        have k2 : e2.length = 1 := h2
        have k3 : e3.length = 1 := h3
        have ht : tx ((q :: [e1, e2, e3]) :: r) 0 = tSV := hq
        exfalso
        rw [← Bool.not_eq_true] at h
        exact h (by
          unfold isB
          rw [ht]
          simp [allBut, k2, k3])
  unfold svE dnE
  rw [this]
  rfl
theorem sv_e {q e1 : List Tx} {y2 y3 : Tx} {r : List Sg} (hq : q.headD [] = tSV) : dnOk ([q, e1, [y2], [y3]] :: r) = (decide (2 ≤ e1.length) && decide (e1.headD [] = tHC)) := by
  have hb : behB ([q, e1, [y2], [y3]] :: r) tSV 3 = true := by
    have ht : tx ([q, e1, [y2], [y3]] :: r) 0 = tSV := hq
    unfold behB; rw [ht]; rfl
  unfold dnOk
  rw [hb]
  show (true && (decide (2 ≤ e1.length) && (decide (e1.headD [] = tHC) && (decide (1 = 1) && decide (1 = 1))))) = _
  cases decide (2 ≤ e1.length) <;> cases decide (e1.headD [] = tHC) <;> rfl
theorem tx_two {K : Nat → Prop} {w : World} {bt ot n tc : Nat} {p0 p1 : Tx} {ms : List Tx} (h : TxAt K w (.slice (some ⟨bt, ot, none⟩) n tc) (p0 :: p1 :: ms)) : w.cell? ⟨bt, ot, none⟩ = some (.string (mk p0)) ∧ w.cell? ⟨bt, ot + 1, none⟩ = some (.string (mk p1)) ∧ (tc ≠ 2 → TxAt K w (.slice (some ⟨bt, ot + 2, none⟩) ms.length (tc - 2)) ms) ∧ (tc = 2 → ms = []) := by
  obtain ⟨a1, c1, e1, g1, g2, h0 | ⟨b1, o1, e2, hK, hlt, hall⟩⟩ := h
  · cases h0
  simp only [Value.slice.injEq] at e1
  obtain ⟨rfl, -, rfl⟩ := e1
  simp only [Option.some.injEq, Addr.mk.injEq, and_true] at e2
  obtain ⟨rfl, rfl⟩ := e2
  simp only [List.length_cons] at g1
  obtain ⟨u0, c0, rfl⟩ := hall 0 p0 rfl
  obtain ⟨u1, c1', rfl⟩ := hall 1 p1 rfl
  refine ⟨c0, c1', fun _ => ⟨_, _, rfl, by omega, by omega, ?_⟩, fun e => ?_⟩
  · exact Or.inr ⟨bt, ot + 2, rfl, hK, hlt, fun j x hj => by
      have := hall (j + 2) x (by simpa using hj)
      rwa [show ot + (j + 2) = ot + 2 + j by omega] at this⟩
  · exact List.length_eq_zero_iff.1 (by omega)
theorem rel_at (p : Nat) (la : Option Addr) (lc a i : Nat) (l : List Sg) (g : Sg) (r : List Sg) (y : Tx) (w : World) (hb : SgBox p la l.length lc (a + 1) w) (hS : SgAt All w (.slice la l.length lc) l) (hl : l.length ≤ 100000) (hd : l.drop a = g :: r) (hi : g[i]? = some [y]) (h10 : i ≤ 10) :
    Calls Tryz.prog 34 #[.pointer (some ⟨p, 0, none⟩), .int .i64 (i : Int)] w fun e w' => e = .returned (.string (mk y)) ∧ Below w.heap.size w w' := by
  obtain ⟨hk, hg, -⟩ := at_drop hd
  obtain ⟨h1, h2⟩ := List.getElem?_eq_some_iff.1 (show (l[a])[i]? = some [y] by rw [hg]; exact hi)
  have := rel_any p la lc a i l w hb hS hk hl h1 (by rw [h2]; simp) h10
  have e : tx (l.drop a) i = y := by
    rw [hd]
    show ((g.getD i []).headD []) = y
    rw [List.getD_eq_getElem?_getD, hi]; rfl
  rw [e] at this
  exact this
theorem rsv_bad {l : List Sg} (h : dnOk l = false) : svE l = 4 := by unfold svE dnE; rw [h]; rfl
theorem tx_addr {K : Nat → Prop} {w : World} {ta : Option Addr} {n tc : Nat} {xs : List Tx} (h : TxAt K w (.slice ta n tc) xs) (hne : xs ≠ []) : ∃ bt ot, ta = some ⟨bt, ot, none⟩ := by
  obtain ⟨a1, c1, e1, -, -, h0 | ⟨b1, o1, e2, -⟩⟩ := h
  · exact absurd h0 hne
  · simp only [Value.slice.injEq] at e1; exact ⟨b1, o1, e1.1.trans e2⟩
theorem two_more (l : List Tx) (h : 2 ≤ l.length) : ∃ p0 p1 ms, l = p0 :: p1 :: ms := by
  match l, h with
  | p0 :: p1 :: ms, _ => exact ⟨p0, p1, ms, rfl⟩
theorem rmoney_tx (y : Tx) (W : World) (h : y.length ≤ 65536) : Calls Tryz.prog 70 #[.string (mk y)] W fun e w' => e = .returned (.tuple #[.int .i64 (Nu.mnV y), .int .i64 (Nu.mnE y)]) ∧ Below W.heap.size W w' := by
  have := Nu.rreadMoney_any (mk y) W (by rw [mk_size]; unfold maxLen; omega)
  rw [mk_list] at this
  exact this
theorem rint_tx (y : Tx) (n : Int) (W : World) : Calls Tryz.prog 33 #[.string (mk y), .int .i64 n] W fun e w' => e = .returned (.tuple #[.int .i64 (Nu.riV y n), .int .i64 (Nu.riE y n)]) ∧ Below W.heap.size W w' := by
  have := Nu.rreadInt_any (mk y) n W
  rw [mk_list] at this
  exact this
theorem rsv_dn {l : List Sg} (h : dnE l ≠ 0) : svE l = dnE l := by unfold svE; rw [if_neg h]
theorem rdy_bad {l : List Sg} (h : dyOk l = false) : dyE l = 4 := by unfold dyE; rw [h]; rfl
theorem rdy_no {l : List Sg} (h : txB l tDTP 2 = false) : dyE l = 4 := rdy_bad (by unfold dyOk; rw [h]; rfl)
set_option maxHeartbeats 16000000 in
theorem rsv_any (K : Nat → Prop) (p : Nat) (hKp : ∀ b, K b → b ≠ p) (la : Option Addr) (lc a k : Nat) (l : List Sg) (w : World) (hb : SgBox p la l.length lc a w) (hS : SgAt K w (.slice la l.length lc) l) (hn : Nm l) (hs : Sh l) (ha : a ≤ l.length) (hl : l.length ≤ 100000) (hk : k ≤ 1000000) :
    Calls Tryz.prog 71 #[.pointer (some ⟨p, 0, none⟩), .int .i64 (k : Int)] w fun e w' => (∃ (x : Ln) (ma : Option Addr) (mn mc : Nat), e = .returned (.tuple #[lnv x (.slice ma mn mc), .int .i64 (if plB (l.drop a) tLX k = true then svE (l.drop (a + 1)) else 11)]) ∧ ((if plB (l.drop a) tLX k = true then svE (l.drop (a + 1)) else 11) = 0 → x = svX (l.drop (a + 1)) ∧ TxAt K w' (.slice ma mn mc) x.mods ∧ ∃ a', SgBox p la l.length lc a' w' ∧ l.drop a' = svN (l.drop (a + 1)) ∧ a' ≤ l.length ∧ a < a')) ∧ w.grownBy w' (some p) := by
  have hpw : p < w.heap.size := (Array.getElem?_eq_some_iff.1 hb).1
  have HSK := Lib.hid fun W (hG : w.grownBy W (some p)) => SgAt.move (K' := K) hS (moves_grown hG fun b _ hk => ⟨hk, fun e => hKp b hk (Option.some.inj e)⟩)
  have HSA := Lib.hid fun W (hG : w.grownBy W (some p)) => SgAt.move (K' := All) (HSK.out W hG) (moves_weak _ fun _ _ _ => trivial)
  have HIs := Lib.hid fun W a' n t but (hG : w.grownBy W (some p)) (hp : SgBox p la l.length lc a' W) (ha' : a' ≤ l.length) (h1 : 1 ≤ n) (h10 : n ≤ 10) => ris_any p la lc a' n t but l W hp (HSA.out W hG) hn ha' hl h1 h10
  have b01 := below_alloc w (.cells #[.string ⟨#[]⟩, .slice none 0 0, .int .i64 0, .int .i64 0, .int .i64 0, .int .i64 0] 47)
  have b12 := below_alloc (w.alloc (.cells #[.string ⟨#[]⟩, .slice none 0 0, .int .i64 0, .int .i64 0, .int .i64 0, .int .i64 0] 47)) (.cells #[.string ⟨#[]⟩, .slice none 0 0, .int .i64 0, .int .i64 0, .int .i64 0, .int .i64 0] 47)
  have HG0 := Lib.hid (grownBy_below (below_trans b01 b12))
  have hG0 : w.grownBy ((w.alloc (.cells #[.string ⟨#[]⟩, .slice none 0 0, .int .i64 0, .int .i64 0, .int .i64 0, .int .i64 0] 47)).alloc (.cells #[.string ⟨#[]⟩, .slice none 0 0, .int .i64 0, .int .i64 0, .int .i64 0, .int .i64 0] 47)) (some p) := ⟨HG0.out.os, HG0.out.tape, HG0.out.output, HG0.out.size, fun k hk _ => HG0.out.block k hk (by simp)⟩
  have HP0 := Lib.hid (hb.grw (below_trans b01 b12))
  have HZ0 := Lib.hid (keepB (heap_alloc_new w (.cells #[.string ⟨#[]⟩, .slice none 0 0, .int .i64 0, .int .i64 0, .int .i64 0, .int .i64 0] 47)) b12)
  have HL0 := Lib.hid (new_at (w.alloc (.cells #[.string ⟨#[]⟩, .slice none 0 0, .int .i64 0, .int .i64 0, .int .i64 0, .int .i64 0] 47)) (.cells #[.string ⟨#[]⟩, .slice none 0 0, .int .i64 0, .int .i64 0, .int .i64 0, .int .i64 0] 47) (w.heap.size + 1) (by simp))
  clear HG0
  have HG0 := Lib.hid hG0
  clear b01 b12 hG0
  obtain ⟨EE, hEE⟩ : ∃ EE, EE = (if plB (l.drop a) tLX k = true then svE (l.drop (a + 1)) else 11) := ⟨_, rfl⟩
  rw [← hEE]
  obtain ⟨R, hR⟩ : ∃ R, R = l.drop (a + 1) := ⟨_, rfl⟩
  rw [← hR] at hEE ⊢
  have HRr := Lib.hid hR
  clear hR
  have HEE := Lib.hid hEE
  have HNm := Lib.hid hn
  clear hEE hS hb
  go_enter Tryz.func71, Tryz.ntmps71
  go_upto_region 2 with fail
  generalize (w.alloc (.cells #[.string ⟨#[]⟩, .slice none 0 0, .int .i64 0, .int .i64 0, .int .i64 0, .int .i64 0] 47)).alloc (.cells #[.string ⟨#[]⟩, .slice none 0 0, .int .i64 0, .int .i64 0, .int .i64 0, .int .i64 0] 47) = w0 at *
  have HBd := Lib.hid (Below.drew (Below.refl w0.heap.size w0))
  have HCe : Hid (∀ W, Below w0.heap.size w0 W → W.cell? ⟨p, 0, none⟩ = some (.slice la l.length lc) ∧ W.cell? ⟨p, 1, none⟩ = some (.int .i64 (a : Int))) := fun W hW => (HP0.out.grw hW).cells
  obtain ⟨b0, b1⟩ := HP0.out.cells
  cases hA : txB (l.drop a) tLX 1
  · have HC : Hid (∀ W, (∃ q, W = w0.drewN q) → Calls Tryz.prog 32 #[.pointer (some ⟨p, 0, none⟩), .string ⟨#[76, 88]⟩, .int .i64 2, .int .i64 (-1)] W fun e w' => e = .returned (.bool false) ∧ ∃ q, w' = W.drewN q) := fun W hW => by
      have hB := below_drewq hW
      have := ris_q p la lc a 2 tLX (-1) l W (HP0.out.grw hB) (HSA.out W (grown_below HG0.out hB)) HNm.out ha hl (by omega) (by omega)
      rw [is_tx, hA] at this
      exact this
    have hpl : plB (l.drop a) tLX k = false := by unfold plB; rw [hA]; rfl
    go_quiet (first | (go_at_call 32; exact Calls.quiet_of (HC.out _ ⟨_, rfl⟩)))
    have HB1 : Hid (Below w0.heap.size w0 (w0.drewN nq)) := below_drewq ⟨_, rfl⟩
    have HP1 := Lib.hid (HP0.out.grw HB1.out)
    have HZ1 := Lib.hid (keepB HZ0.out HB1.out)
    have HL1 := Lib.hid (keepB HL0.out HB1.out)
    have HG1 := Lib.hid (grown_below HG0.out HB1.out)
    generalize w0.drewN nq = w1 at *
    clear b0 b1
    have HX : Hid (EE = 11) := by show _ = _; rw [HEE.out, hpl]; rfl
    obtain ⟨b0, b1⟩ := HP1.out.cells
    have bf := Lib.frozen_of_heap HP1.out 1
    obtain ⟨l0, l1, l2, l3, l4, l5⟩ := line_cells HL1.out
    obtain ⟨g0, g1, g2, g3, g4, g5⟩ := line_frozen HL1.out
    obtain ⟨d0, d1, d2, d3, d4, d5⟩ := line_cells HZ1.out
    obtain ⟨f0, f1, f2, f3, f4, f5⟩ := line_frozen HZ1.out
    go_wp2
    clear b0 b1 bf l0 l1 l2 l3 l4 l5 g0 g1 g2 g3 g4 g5 d0 d1 d2 d3 d4 d5 f0 f1 f2 f3 f4 f5
    have HZF : Hid (((((((w1.setCell ⟨w.heap.size, 0, none⟩ (.string ⟨#[]⟩)).setCell ⟨w.heap.size, 1, none⟩ (.slice none 0 0)).setCell ⟨w.heap.size, 2, none⟩ (.int .i64 0)).setCell ⟨w.heap.size, 3, none⟩ (.int .i64 0)).setCell ⟨w.heap.size, 4, none⟩ (.int .i64 0)).setCell ⟨w.heap.size, 5, none⟩ (.int .i64 0)).heap[w.heap.size]? = some (.cells #[.string ⟨#[]⟩, .slice none 0 0, .int .i64 0, .int .i64 0, .int .i64 0, .int .i64 0] 47 (0, 0))) := put6_heap HZ1.out
    have HGF : Hid (w.grownBy ((((((w1.setCell ⟨w.heap.size, 0, none⟩ (.string ⟨#[]⟩)).setCell ⟨w.heap.size, 1, none⟩ (.slice none 0 0)).setCell ⟨w.heap.size, 2, none⟩ (.int .i64 0)).setCell ⟨w.heap.size, 3, none⟩ (.int .i64 0)).setCell ⟨w.heap.size, 4, none⟩ (.int .i64 0)).setCell ⟨w.heap.size, 5, none⟩ (.int .i64 0)) (some p)) := grown_put6 HG1.out (Nat.le_refl _) _ _ _ _ _ _
    generalize ((((((w1.setCell ⟨w.heap.size, 0, none⟩ (.string ⟨#[]⟩)).setCell ⟨w.heap.size, 1, none⟩ (.slice none 0 0)).setCell ⟨w.heap.size, 2, none⟩ (.int .i64 0)).setCell ⟨w.heap.size, 3, none⟩ (.int .i64 0)).setCell ⟨w.heap.size, 4, none⟩ (.int .i64 0)).setCell ⟨w.heap.size, 5, none⟩ (.int .i64 0)) = wz at *
    obtain ⟨e0, e1', e2, e3, e4, e5⟩ := line_cells HZF.out
    refine bodyPost_ret (v := .tuple #[.agg #[.string ⟨#[]⟩, .slice none 0 0, .int .i64 0, .int .i64 0, .int .i64 0, .int .i64 0], .int .i64 (11)]) (by simp [results, Tryz.results71, go_sem, e0, e1', e2, e3, e4, e5]) rfl ?_
    exact ⟨⟨⟨[], [], 0, 0, 0, 0⟩, none, 0, 0, by rw [HX.out] <;> rfl, fun h => absurd (HX.out.symm.trans h) (by decide)⟩, HGF.out⟩
  obtain ⟨pp, y, r, hr, -⟩ := tx1_form hA
  have hlt : a < l.length := by
    rcases Nat.lt_or_ge a l.length with h | h
    · exact h
    · rw [List.drop_eq_nil_of_le h] at hr; cases hr
  have hla : l[a] = [pp, [y]] ∧ l.drop (a + 1) = r := by
    rw [drop_cons hlt] at hr
    simp only [List.cons.injEq] at hr
    exact hr
  have HLA := Lib.hid hla
  have HTX : Hid (plB (l.drop a) tLX k = decide (y = Lib.itoa (k : Int))) := by show _ = _; unfold plB; rw [hA, hr]; rfl
  have HC : Hid (∀ W, Below w0.heap.size w0 W → Calls Tryz.prog 32 #[.pointer (some ⟨p, 0, none⟩), .string ⟨#[76, 88]⟩, .int .i64 2, .int .i64 (-1)] W fun e w' => e = .returned (.bool true) ∧ Below W.heap.size W w') := fun W hW => by
    have := HIs.out W a 2 tLX (-1) (grown_below HG0.out hW) (HP0.out.grw hW) ha (by omega) (by omega)
    rw [is_tx, hA] at this
    exact this
  obtain ⟨b, o, u, rfl, -, hu, hel⟩ := RowAt.get (HSA.out w0 HG0.out) a hlt
  rw [hla.1] at hel
  obtain ⟨ea, ec, he, f3, f4, -⟩ := id hel
  subst he
  obtain ⟨be, oe, u1, rfl, -, hu1, htx⟩ := RowAt.get hel 1 (by simp)
  have htx' : TxAt All w0 u1 [y] := htx
  obtain ⟨ta, tc, ht, f5, f6, -⟩ := id htx'
  subst ht
  obtain ⟨bt, ot, u2, rfl, -, hu2, rfl⟩ := RowAt.get htx' 0 (by simp)
  rw [Nat.add_zero] at hu2
  have hu' : w0.cell? ⟨b, o + a, none⟩ = some (.slice (some ⟨be, oe, none⟩) 2 ec) := hu
  have hu1' : w0.cell? ⟨be, oe + 1, none⟩ = some (.slice (some ⟨bt, ot, none⟩) 1 tc) := hu1
  have hu2' : w0.cell? ⟨bt, ot, none⟩ = some (.string (mk y)) := hu2
  have f3' : 2 ≤ ec := f3
  have f5' : 1 ≤ tc := f5
  obtain ⟨f1, f2⟩ : l.length ≤ lc ∧ lc ≤ 9223372036854775807 := by obtain ⟨_, _, e, q1, q2, -⟩ := HSA.out w0 HG0.out; simp only [Value.slice.injEq] at e; obtain ⟨-, -, rfl⟩ := e; exact ⟨q1, q2⟩
  unfold maxLen at f4 f6
  have heq := Cm.mk_ne y (Lib.itoa (k : Int))
  have HNu : Hid (∀ W : World, Calls Tryz.prog 26 #[.int .i64 (k : Int)] W fun e w' => e = .returned (.string (mk (Lib.itoa (k : Int)))) ∧ Below W.heap.size W w') := fun W => rnum_any _ W (by omega) (by omega)
  clear hr hla hA hu hu1 hu2 hel htx htx' f3 f5
  have HCf : Hid (∀ W, Below w0.heap.size w0 W → W.cell? ⟨p, 0, none⟩ = some (.slice (some ⟨b, o, none⟩) l.length lc) ∧ W.cell? ⟨p, 1, none⟩ = some (.int .i64 (a : Int)) ∧ W.cell? ⟨b, o + a, none⟩ = some (.slice (some ⟨be, oe, none⟩) 2 ec) ∧ W.cell? ⟨be, oe + 1, none⟩ = some (.slice (some ⟨bt, ot, none⟩) 1 tc) ∧ W.cell? ⟨bt, ot, none⟩ = some (.string (mk y))) := fun W hW => ⟨(HP0.out.grw hW).cells.1, (HP0.out.grw hW).cells.2, keepC hu' hW, keepC hu1' hW, keepC hu2' hW⟩
  by_cases hy : y = Lib.itoa (k : Int)
  case neg =>
    rw [decide_eq_false hy] at heq HTX
    generalize Lib.itoa (k : Int) = it at *
    go_region_held3 (fun w' => w'.cell? ⟨p, 0, none⟩ = some (.slice (some ⟨b, o, none⟩) l.length lc) ∧ w'.cell? ⟨p, 1, none⟩ = some (.int .i64 (a : Int)) ∧ w'.cell? ⟨b, o + a, none⟩ = some (.slice (some ⟨be, oe, none⟩) 2 ec) ∧ w'.cell? ⟨be, oe + 1, none⟩ = some (.slice (some ⟨bt, ot, none⟩) 1 tc) ∧ w'.cell? ⟨bt, ot, none⟩ = some (.string (mk y))) (go_keep) (first | (go_at_call 26; refine (HNu.out _).mono ?_; rintro z w2 ⟨rfl, hb⟩; have HB2 := Lib.hid (below_trans HB1.out hb); obtain ⟨q0, q1, q2, q3, q4⟩ := HCf.out _ HB2.out; clear hb) | (go_at_call 32; refine (HC.out _ (by with_reducible exact HBd.out)).mono ?_; rintro z w1 ⟨rfl, hb⟩; have HB1 := Lib.hid (below_trans HBd.out hb); obtain ⟨r0, r1, r2, r3, r4⟩ := HCf.out _ HB1.out; clear hb))
    all_goals
      rename_i hHeld
      clear hHeld
      have HP2 := Lib.hid (HP0.out.grw HB2.out)
      have HZ2 := Lib.hid (keepB HZ0.out HB2.out)
      have HL2 := Lib.hid (keepB HL0.out HB2.out)
      have HG2 := Lib.hid (grown_below HG0.out HB2.out)
      clear b0 b1 hu' hu1' hu2' q0 q1 q2 q3 q4 r0 r1 r2 r3 r4
      have HX : Hid (EE = 11) := by show _ = _; rw [HEE.out, HTX.out]; rfl
      obtain ⟨b0, b1⟩ := HP2.out.cells
      have bf := Lib.frozen_of_heap HP2.out 1
      obtain ⟨l0, l1, l2, l3, l4, l5⟩ := line_cells HL2.out
      obtain ⟨g0, g1, g2, g3, g4, g5⟩ := line_frozen HL2.out
      obtain ⟨d0, d1, d2, d3, d4, d5⟩ := line_cells HZ2.out
      obtain ⟨f0, f1, f2, f3, f4, f5⟩ := line_frozen HZ2.out
      go_wp2
      clear b0 b1 bf l0 l1 l2 l3 l4 l5 g0 g1 g2 g3 g4 g5 d0 d1 d2 d3 d4 d5 f0 f1 f2 f3 f4 f5
      have HZF : Hid (((((((w2.setCell ⟨w.heap.size, 0, none⟩ (.string ⟨#[]⟩)).setCell ⟨w.heap.size, 1, none⟩ (.slice none 0 0)).setCell ⟨w.heap.size, 2, none⟩ (.int .i64 0)).setCell ⟨w.heap.size, 3, none⟩ (.int .i64 0)).setCell ⟨w.heap.size, 4, none⟩ (.int .i64 0)).setCell ⟨w.heap.size, 5, none⟩ (.int .i64 0)).heap[w.heap.size]? = some (.cells #[.string ⟨#[]⟩, .slice none 0 0, .int .i64 0, .int .i64 0, .int .i64 0, .int .i64 0] 47 (0, 0))) := put6_heap HZ2.out
      have HGF : Hid (w.grownBy ((((((w2.setCell ⟨w.heap.size, 0, none⟩ (.string ⟨#[]⟩)).setCell ⟨w.heap.size, 1, none⟩ (.slice none 0 0)).setCell ⟨w.heap.size, 2, none⟩ (.int .i64 0)).setCell ⟨w.heap.size, 3, none⟩ (.int .i64 0)).setCell ⟨w.heap.size, 4, none⟩ (.int .i64 0)).setCell ⟨w.heap.size, 5, none⟩ (.int .i64 0)) (some p)) := grown_put6 HG2.out (Nat.le_refl _) _ _ _ _ _ _
      generalize ((((((w2.setCell ⟨w.heap.size, 0, none⟩ (.string ⟨#[]⟩)).setCell ⟨w.heap.size, 1, none⟩ (.slice none 0 0)).setCell ⟨w.heap.size, 2, none⟩ (.int .i64 0)).setCell ⟨w.heap.size, 3, none⟩ (.int .i64 0)).setCell ⟨w.heap.size, 4, none⟩ (.int .i64 0)).setCell ⟨w.heap.size, 5, none⟩ (.int .i64 0)) = wz at *
      obtain ⟨e0, e1', e2, e3, e4, e5⟩ := line_cells HZF.out
      refine bodyPost_ret (v := .tuple #[.agg #[.string ⟨#[]⟩, .slice none 0 0, .int .i64 0, .int .i64 0, .int .i64 0, .int .i64 0], .int .i64 (11)]) (by simp [results, Tryz.results71, go_sem, e0, e1', e2, e3, e4, e5]) rfl ?_
      exact ⟨⟨⟨[], [], 0, 0, 0, 0⟩, none, 0, 0, by rw [HX.out] <;> rfl, fun h => absurd (HX.out.symm.trans h) (by decide)⟩, HGF.out⟩
  rw [decide_eq_true hy] at heq HTX
  clear hy
  generalize Lib.itoa (k : Int) = it at *
  go_region_held3 (fun w' => w'.cell? ⟨p, 0, none⟩ = some (.slice (some ⟨b, o, none⟩) l.length lc) ∧ w'.cell? ⟨p, 1, none⟩ = some (.int .i64 (a : Int)) ∧ w'.cell? ⟨b, o + a, none⟩ = some (.slice (some ⟨be, oe, none⟩) 2 ec) ∧ w'.cell? ⟨be, oe + 1, none⟩ = some (.slice (some ⟨bt, ot, none⟩) 1 tc) ∧ w'.cell? ⟨bt, ot, none⟩ = some (.string (mk y))) (go_keep) (first | (go_at_call 26; refine (HNu.out _).mono ?_; rintro z w2 ⟨rfl, hb⟩; have HB2 := Lib.hid (below_trans HB1.out hb); obtain ⟨q0, q1, q2, q3, q4⟩ := HCf.out _ HB2.out; clear hb) | (go_at_call 32; refine (HC.out _ (by with_reducible exact HBd.out)).mono ?_; rintro z w1 ⟨rfl, hb⟩; have HB1 := Lib.hid (below_trans HBd.out hb); obtain ⟨r0, r1, r2, r3, r4⟩ := HCf.out _ HB1.out; clear hb))
  rename_i hHeld
  clear hHeld
  have HP2 := Lib.hid (HP0.out.grw HB2.out)
  have HZ2 := Lib.hid (keepB HZ0.out HB2.out)
  have HL2 := Lib.hid (keepB HL0.out HB2.out)
  have HG2 := Lib.hid (grown_below HG0.out HB2.out)
  clear b0 b1 hu' hu1' hu2' q0 q1 q2 q3 q4 r0 r1 r2 r3 r4
  clear HCf HCe HC HNu HBd HB1 HB2 heq
  obtain ⟨a1, ha1⟩ : ∃ a1 : Nat, a1 = a + 1 := ⟨_, rfl⟩
  have HAa1 := Lib.hid ha1
  have la1 : a1 ≤ l.length := by omega
  clear ha1
  obtain ⟨b0, b1⟩ := HP2.out.cells
  have bf := Lib.frozen_of_heap HP2.out 1
  go_upto_region 5 with fail
  have HP3 : Hid (SgBox p (some ⟨b, o, none⟩) l.length lc a1 (w2.setCell ⟨p, 1, none⟩ (.int .i64 ((a : Int) + 1)))) := HP2.out.set _ (by rw [HAa1.out]; simp)
  have HZ3 := Lib.hid (heap_far (j := 1) (u := (.int .i64 ((a : Int) + 1))) HZ2.out (show w.heap.size ≠ p by omega))
  have HL3 := Lib.hid (heap_far (j := 1) (u := (.int .i64 ((a : Int) + 1))) HL2.out (show w.heap.size + 1 ≠ p by omega))
  have HG3 : Hid (w.grownBy (w2.setCell ⟨p, 1, none⟩ (.int .i64 ((a : Int) + 1))) (some p)) := grown_set HG2.out (Or.inr rfl)
  generalize w2.setCell ⟨p, 1, none⟩ (.int .i64 ((a : Int) + 1)) = w3 at *
  clear b0 b1 bf HP2 HZ2 HL2 HG2
  have HLD1 : Hid (l.drop a1 = R) := by show _ = _; rw [HAa1.out]; exact HRr.out.symm
  have HEr : Hid (EE = svE R) := by show _ = _; rw [HEE.out, HTX.out]; rfl
  have HSK0 := Lib.hid (HSK.out w ⟨rfl, rfl, rfl, Nat.le_refl _, fun _ _ _ => rfl⟩)
  have HC3 : Hid (∀ W, w.grownBy W (some p) → SgBox p (some ⟨b, o, none⟩) l.length lc a1 W → Calls Tryz.prog 32 #[.pointer (some ⟨p, 0, none⟩), .string ⟨#[83, 86]⟩, .int .i64 4, .int .i64 1] W fun e w' => e = .returned (.bool (isB R tSV 4 1)) ∧ Below W.heap.size W w') := fun W hG hp => by
    have := HIs.out W a1 4 tSV 1 hG hp (by omega) (by omega) (by omega)
    rw [HLD1.out] at this
    exact this
  clear HEE HTX HLA
  cases hB : isB R tSV 4 1
  · rw [hB] at HC3
    go_wp2_with fail
    go_at_call 32
    refine (HC3.out _ HG3.out HP3.out).mono ?_
    rintro z w4 ⟨rfl, hb⟩
    have HP4 := Lib.hid (HP3.out.grw hb)
    have HZ4 := Lib.hid (keepB HZ3.out hb)
    have HL4 := Lib.hid (keepB HL3.out hb)
    have HG4 := Lib.hid (grown_below HG3.out hb)
    clear hb
    have HX : Hid (EE = 4) := by show _ = _; rw [HEr.out, rsv_no hB]
    obtain ⟨b0, b1⟩ := HP4.out.cells
    have bf := Lib.frozen_of_heap HP4.out 1
    obtain ⟨l0, l1, l2, l3, l4, l5⟩ := line_cells HL4.out
    obtain ⟨g0, g1, g2, g3, g4, g5⟩ := line_frozen HL4.out
    obtain ⟨d0, d1, d2, d3, d4, d5⟩ := line_cells HZ4.out
    obtain ⟨f0, f1, f2, f3, f4, f5⟩ := line_frozen HZ4.out
    go_wp2
    clear b0 b1 bf l0 l1 l2 l3 l4 l5 g0 g1 g2 g3 g4 g5 d0 d1 d2 d3 d4 d5 f0 f1 f2 f3 f4 f5
    have HZF : Hid (((((((w4.setCell ⟨w.heap.size, 0, none⟩ (.string ⟨#[]⟩)).setCell ⟨w.heap.size, 1, none⟩ (.slice none 0 0)).setCell ⟨w.heap.size, 2, none⟩ (.int .i64 0)).setCell ⟨w.heap.size, 3, none⟩ (.int .i64 0)).setCell ⟨w.heap.size, 4, none⟩ (.int .i64 0)).setCell ⟨w.heap.size, 5, none⟩ (.int .i64 0)).heap[w.heap.size]? = some (.cells #[.string ⟨#[]⟩, .slice none 0 0, .int .i64 0, .int .i64 0, .int .i64 0, .int .i64 0] 47 (0, 0))) := put6_heap HZ4.out
    have HGF : Hid (w.grownBy ((((((w4.setCell ⟨w.heap.size, 0, none⟩ (.string ⟨#[]⟩)).setCell ⟨w.heap.size, 1, none⟩ (.slice none 0 0)).setCell ⟨w.heap.size, 2, none⟩ (.int .i64 0)).setCell ⟨w.heap.size, 3, none⟩ (.int .i64 0)).setCell ⟨w.heap.size, 4, none⟩ (.int .i64 0)).setCell ⟨w.heap.size, 5, none⟩ (.int .i64 0)) (some p)) := grown_put6 HG4.out (Nat.le_refl _) _ _ _ _ _ _
    generalize ((((((w4.setCell ⟨w.heap.size, 0, none⟩ (.string ⟨#[]⟩)).setCell ⟨w.heap.size, 1, none⟩ (.slice none 0 0)).setCell ⟨w.heap.size, 2, none⟩ (.int .i64 0)).setCell ⟨w.heap.size, 3, none⟩ (.int .i64 0)).setCell ⟨w.heap.size, 4, none⟩ (.int .i64 0)).setCell ⟨w.heap.size, 5, none⟩ (.int .i64 0)) = wz at *
    obtain ⟨e0, e1', e2, e3, e4, e5⟩ := line_cells HZF.out
    refine bodyPost_ret (v := .tuple #[.agg #[.string ⟨#[]⟩, .slice none 0 0, .int .i64 0, .int .i64 0, .int .i64 0, .int .i64 0], .int .i64 (4)]) (by simp [results, Tryz.results71, go_sem, e0, e1', e2, e3, e4, e5]) rfl ?_
    exact ⟨⟨⟨[], [], 0, 0, 0, 0⟩, none, 0, 0, by rw [HX.out] <;> rfl, fun h => absurd (HX.out.symm.trans h) (by decide)⟩, HGF.out⟩
  rw [hB] at HC3
  go_wp2_with fail
  go_at_call 32
  refine (HC3.out _ HG3.out HP3.out).mono ?_
  rintro z w4 ⟨rfl, hb⟩
  have HP4 := Lib.hid (HP3.out.grw hb)
  have HZ4 := Lib.hid (keepB HZ3.out hb)
  have HL4 := Lib.hid (keepB HL3.out hb)
  have HG4 := Lib.hid (grown_below HG3.out hb)
  clear hb
  obtain ⟨qn, e1, y2, y3, r2, hr, hqn⟩ := sv_form hB
  have HRf := Lib.hid hr
  rw [hr] at HLD1
  clear hr
  obtain ⟨la1, hg1, hd1⟩ := at_drop HLD1.out
  have hok := sv_e (e1 := e1) (y2 := y2) (y3 := y3) (r := r2) hqn
  have HOK := Lib.hid hok
  have HD1 := Lib.hid hd1
  obtain ⟨be, oe', ec', k1, k2, kc, kp⟩ := seg_at hKp HSK0.out la1 (by rw [hg1]; simp)
  rw [hg1] at k1 kc kp
  obtain ⟨ta', tc', k3, k4, kt⟩ := kp 1 e1 rfl
  have HKC := Lib.hid kc
  have HKT := Lib.hid kt
  have k1' : 4 ≤ ec' := k1
  have hli : (a1 : Int) < (l.length : Int) := by omega
  clear hok hd1 kc kp kt k1 hB HC3 hqn
  obtain ⟨b0, b1⟩ := HP4.out.cells
  have c1 := HKC.out _ HG4.out
  have c2 := (HKT.out _ HG4.out).1
  simp only [List.length_cons, List.length_nil, Nat.zero_add, Nat.reduceAdd] at c1
  go_wp2_with fail
  go_quiet (fail)
  have HB5 : Hid (Below w4.heap.size w4 (w4.drewN nq)) := below_drewq ⟨_, rfl⟩
  have HP5 := Lib.hid (HP4.out.grw HB5.out)
  have HZ5 := Lib.hid (keepB HZ4.out HB5.out)
  have HL5 := Lib.hid (keepB HL4.out HB5.out)
  have HG5 := Lib.hid (grown_below HG4.out HB5.out)
  generalize w4.drewN nq = w5 at *
  clear b0 b1 c1 c2 HP4 HZ4 HL4 HG4 HB5
  obtain ⟨a2, ha2⟩ : ∃ a2 : Nat, a2 = a1 + 1 := ⟨_, rfl⟩
  have HAa2 := Lib.hid ha2
  have la2 : a2 ≤ l.length := by omega
  clear ha2
  obtain ⟨b0, b1⟩ := HP5.out.cells
  have bf := Lib.frozen_of_heap HP5.out 1
  go_upto_region 9 with fail
  have HP6 : Hid (SgBox p (some ⟨b, o, none⟩) l.length lc a2 (w5.setCell ⟨p, 1, none⟩ (.int .i64 ((a1 : Int) + 1)))) := HP5.out.set _ (by rw [HAa2.out]; simp)
  have HZ6 := Lib.hid (heap_far (j := 1) (u := (.int .i64 ((a1 : Int) + 1))) HZ5.out (show w.heap.size ≠ p by omega))
  have HL6 := Lib.hid (heap_far (j := 1) (u := (.int .i64 ((a1 : Int) + 1))) HL5.out (show w.heap.size + 1 ≠ p by omega))
  have HG6 : Hid (w.grownBy (w5.setCell ⟨p, 1, none⟩ (.int .i64 ((a1 : Int) + 1))) (some p)) := grown_set HG5.out (Or.inr rfl)
  generalize w5.setCell ⟨p, 1, none⟩ (.int .i64 ((a1 : Int) + 1)) = w6 at *
  clear b0 b1 bf HP5 HZ5 HL5 HG5
  have HLD2 : Hid (l.drop a2 = r2) := by show _ = _; rw [HAa2.out]; exact HD1.out
  have HEl : Hid (∀ W (i : Nat) y, w.grownBy W (some p) → SgBox p (some ⟨b, o, none⟩) l.length lc a2 W → ([qn, e1, [y2], [y3]] : Sg)[i]? = some [y] → i ≤ 10 → Calls Tryz.prog 34 #[.pointer (some ⟨p, 0, none⟩), .int .i64 (i : Int)] W fun e w' => e = .returned (.string (mk y)) ∧ Below W.heap.size W w') := fun W i y hG hp hi h10 => rel_at p _ lc a1 i l _ r2 y W (by rw [← HAa2.out]; exact hp) (HSA.out W hG) hl HLD1.out hi h10
  generalize hn1 : e1.length = n1 at *
  have HN1 := Lib.hid hn1
  clear hn1
  by_cases h2 : n1 < 2
  case pos =>
    have h2' : (n1 : Int) < 2 := by omega
    have HX : Hid (EE = 4) := by show _ = _; rw [HEr.out, HRf.out]; exact rsv_bad (by rw [HOK.out, decide_eq_false (by omega)]; rfl)
    obtain ⟨b0, b1⟩ := HP6.out.cells
    have bf := Lib.frozen_of_heap HP6.out 1
    obtain ⟨l0, l1, l2, l3, l4, l5⟩ := line_cells HL6.out
    obtain ⟨g0, g1, g2, g3, g4, g5⟩ := line_frozen HL6.out
    obtain ⟨d0, d1, d2, d3, d4, d5⟩ := line_cells HZ6.out
    obtain ⟨f0, f1, f2, f3, f4, f5⟩ := line_frozen HZ6.out
    go_wp2
    clear b0 b1 bf l0 l1 l2 l3 l4 l5 g0 g1 g2 g3 g4 g5 d0 d1 d2 d3 d4 d5 f0 f1 f2 f3 f4 f5
    have HZF : Hid (((((((w6.setCell ⟨w.heap.size, 0, none⟩ (.string ⟨#[]⟩)).setCell ⟨w.heap.size, 1, none⟩ (.slice none 0 0)).setCell ⟨w.heap.size, 2, none⟩ (.int .i64 0)).setCell ⟨w.heap.size, 3, none⟩ (.int .i64 0)).setCell ⟨w.heap.size, 4, none⟩ (.int .i64 0)).setCell ⟨w.heap.size, 5, none⟩ (.int .i64 0)).heap[w.heap.size]? = some (.cells #[.string ⟨#[]⟩, .slice none 0 0, .int .i64 0, .int .i64 0, .int .i64 0, .int .i64 0] 47 (0, 0))) := put6_heap HZ6.out
    have HGF : Hid (w.grownBy ((((((w6.setCell ⟨w.heap.size, 0, none⟩ (.string ⟨#[]⟩)).setCell ⟨w.heap.size, 1, none⟩ (.slice none 0 0)).setCell ⟨w.heap.size, 2, none⟩ (.int .i64 0)).setCell ⟨w.heap.size, 3, none⟩ (.int .i64 0)).setCell ⟨w.heap.size, 4, none⟩ (.int .i64 0)).setCell ⟨w.heap.size, 5, none⟩ (.int .i64 0)) (some p)) := grown_put6 HG6.out (Nat.le_refl _) _ _ _ _ _ _
    generalize ((((((w6.setCell ⟨w.heap.size, 0, none⟩ (.string ⟨#[]⟩)).setCell ⟨w.heap.size, 1, none⟩ (.slice none 0 0)).setCell ⟨w.heap.size, 2, none⟩ (.int .i64 0)).setCell ⟨w.heap.size, 3, none⟩ (.int .i64 0)).setCell ⟨w.heap.size, 4, none⟩ (.int .i64 0)).setCell ⟨w.heap.size, 5, none⟩ (.int .i64 0)) = wz at *
    obtain ⟨e0, e1', e2, e3, e4, e5⟩ := line_cells HZF.out
    refine bodyPost_ret (v := .tuple #[.agg #[.string ⟨#[]⟩, .slice none 0 0, .int .i64 0, .int .i64 0, .int .i64 0, .int .i64 0], .int .i64 (4)]) (by simp [results, Tryz.results71, go_sem, e0, e1', e2, e3, e4, e5]) rfl ?_
    exact ⟨⟨⟨[], [], 0, 0, 0, 0⟩, none, 0, 0, by rw [HX.out] <;> rfl, fun h => absurd (HX.out.symm.trans h) (by decide)⟩, HGF.out⟩
  have h2' : ¬ (n1 : Int) < 2 := by omega
  obtain ⟨p0, p1, ms, he1⟩ := two_more e1 (by have := HN1.out; omega)
  have HE1 := Lib.hid he1
  obtain ⟨bt, ot, rfl⟩ := tx_addr (HKT.out _ HG6.out).2 (by rw [he1]; simp)
  have HTW : Hid (∀ W, w.grownBy W (some p) → TxAt K W (.slice (some ⟨bt, ot, none⟩) n1 tc') (p0 :: p1 :: ms)) := fun W hG => by have := (HKT.out W hG).2; rw [HE1.out] at this; exact this
  have HML : Hid (n1 = ms.length + 2) := by show _ = _; rw [← HN1.out, HE1.out]; rfl
  have heq : ((mk p0).toList == [72, 67]) = decide (p0 = tHC) := mk_lit p0 tHC
  clear he1
  obtain ⟨c0, c1, -, -⟩ := tx_two (HTW.out _ HG6.out)
  by_cases hp0 : p0 = tHC
  case neg =>
    rw [decide_eq_false hp0] at heq
    have HX : Hid (EE = 4) := by show _ = _; rw [HEr.out, HRf.out]; exact rsv_bad (by rw [HOK.out, HE1.out]; show (_ && decide (p0 = tHC)) = false; rw [decide_eq_false hp0, Bool.and_false])
    obtain ⟨b0, b1⟩ := HP6.out.cells
    have bf := Lib.frozen_of_heap HP6.out 1
    obtain ⟨l0, l1, l2, l3, l4, l5⟩ := line_cells HL6.out
    obtain ⟨g0, g1, g2, g3, g4, g5⟩ := line_frozen HL6.out
    obtain ⟨d0, d1, d2, d3, d4, d5⟩ := line_cells HZ6.out
    obtain ⟨f0, f1, f2, f3, f4, f5⟩ := line_frozen HZ6.out
    go_wp2
    clear b0 b1 bf l0 l1 l2 l3 l4 l5 g0 g1 g2 g3 g4 g5 d0 d1 d2 d3 d4 d5 f0 f1 f2 f3 f4 f5
    have HZF : Hid (((((((w6.setCell ⟨w.heap.size, 0, none⟩ (.string ⟨#[]⟩)).setCell ⟨w.heap.size, 1, none⟩ (.slice none 0 0)).setCell ⟨w.heap.size, 2, none⟩ (.int .i64 0)).setCell ⟨w.heap.size, 3, none⟩ (.int .i64 0)).setCell ⟨w.heap.size, 4, none⟩ (.int .i64 0)).setCell ⟨w.heap.size, 5, none⟩ (.int .i64 0)).heap[w.heap.size]? = some (.cells #[.string ⟨#[]⟩, .slice none 0 0, .int .i64 0, .int .i64 0, .int .i64 0, .int .i64 0] 47 (0, 0))) := put6_heap HZ6.out
    have HGF : Hid (w.grownBy ((((((w6.setCell ⟨w.heap.size, 0, none⟩ (.string ⟨#[]⟩)).setCell ⟨w.heap.size, 1, none⟩ (.slice none 0 0)).setCell ⟨w.heap.size, 2, none⟩ (.int .i64 0)).setCell ⟨w.heap.size, 3, none⟩ (.int .i64 0)).setCell ⟨w.heap.size, 4, none⟩ (.int .i64 0)).setCell ⟨w.heap.size, 5, none⟩ (.int .i64 0)) (some p)) := grown_put6 HG6.out (Nat.le_refl _) _ _ _ _ _ _
    generalize ((((((w6.setCell ⟨w.heap.size, 0, none⟩ (.string ⟨#[]⟩)).setCell ⟨w.heap.size, 1, none⟩ (.slice none 0 0)).setCell ⟨w.heap.size, 2, none⟩ (.int .i64 0)).setCell ⟨w.heap.size, 3, none⟩ (.int .i64 0)).setCell ⟨w.heap.size, 4, none⟩ (.int .i64 0)).setCell ⟨w.heap.size, 5, none⟩ (.int .i64 0)) = wz at *
    obtain ⟨e0, e1', e2, e3, e4, e5⟩ := line_cells HZF.out
    refine bodyPost_ret (v := .tuple #[.agg #[.string ⟨#[]⟩, .slice none 0 0, .int .i64 0, .int .i64 0, .int .i64 0, .int .i64 0], .int .i64 (4)]) (by simp [results, Tryz.results71, go_sem, e0, e1', e2, e3, e4, e5]) rfl ?_
    exact ⟨⟨⟨[], [], 0, 0, 0, 0⟩, none, 0, 0, by rw [HX.out] <;> rfl, fun h => absurd (HX.out.symm.trans h) (by decide)⟩, HGF.out⟩
  have HP0e : Hid (p0 = tHC) := hp0
  rw [decide_eq_true hp0] at heq
  clear hp0
  obtain ⟨b0, b1⟩ := HP6.out.cells
  have bf := Lib.frozen_of_heap HP6.out 1
  obtain ⟨l0, l1, l2, l3, l4, l5⟩ := line_cells HL6.out
  obtain ⟨g0, g1, g2, g3, g4, g5⟩ := line_frozen HL6.out
  go_upto_region 12 with fail
  have HL7 : Hid ((w6.setCell ⟨w.heap.size + 1, 0, none⟩ (.string (mk p1))).heap[w.heap.size + 1]? = some (.cells #[.string (mk p1), .slice none 0 0, .int .i64 0, .int .i64 0, .int .i64 0, .int .i64 0] 47 (0, 0))) := heap_set (HL6.out) 0 (.string (mk p1))
  have HP7 : Hid (SgBox p (some ⟨b, o, none⟩) l.length lc a2 (w6.setCell ⟨w.heap.size + 1, 0, none⟩ (.string (mk p1)))) := heap_far (j := 0) (u := .string (mk p1)) (HP6.out) (show p ≠ w.heap.size + 1 by omega)
  have HZ7 := Lib.hid (heap_far (j := 0) (u := .string (mk p1)) (HZ6.out) (show w.heap.size ≠ w.heap.size + 1 by omega))
  have HG7 := Lib.hid (grown_set (j := 0) (v := .string (mk p1)) (HG6.out) (Or.inl (show w.heap.size ≤ w.heap.size + 1 by omega)))
  generalize (w6.setCell ⟨w.heap.size + 1, 0, none⟩ (.string (mk p1))) = w7 at *
  clear b0 b1 bf l0 l1 l2 l3 l4 l5 g0 g1 g2 g3 g4 g5 HP6 HZ6 HL6 HG6
  clear heq c0 c1
  go_cut [7, 89] (fun _ s89 wx => ∃ (ma : Option Addr) (mc : Nat), s89 = .slice ma (n1 - 2) mc ∧ Hid (∀ W, w.grownBy W (some p) → TxAt K W (.slice ma (n1 - 2) mc) ms) ∧ Hid (wx.heap[w.heap.size + 1]? = some (.cells #[.string (mk p1), .slice ma (n1 - 2) mc, .int .i64 0, .int .i64 0, .int .i64 0, .int .i64 0] 47 (0, 0))) ∧ Hid (SgBox p (some ⟨b, o, none⟩) l.length lc a2 wx) ∧ Hid (wx.heap[w.heap.size]? = some (.cells #[.string ⟨#[]⟩, .slice none 0 0, .int .i64 0, .int .i64 0, .int .i64 0, .int .i64 0] 47 (0, 0))) ∧ Hid (w.grownBy wx (some p)))
  case first =>
    obtain ⟨-, l1, -⟩ := line_cells HL7.out
    obtain ⟨-, g1, -⟩ := line_frozen HL7.out
    have HNM : Hid (n1 - 2 = ms.length) := by show _ = _; have := HML.out; omega
    by_cases htc : tc' = 2
    · have HMN : Hid (ms = []) := (tx_two (HTW.out _ HG7.out)).2.2.2 htc
      go_wp2_with fail
      go_meet
      refine ⟨_, _, rfl, fun W hG => ?_, ?_, ?_, ?_, ?_⟩
      · rw [HNM.out, HMN.out]; exact ⟨_, _, rfl, by simp, by simp [maxLen], Or.inl rfl⟩
      · exact heap_set HL7.out 1 _
      · exact heap_far HP7.out (by omega)
      · exact heap_far HZ7.out (by omega)
      · exact grown_set HG7.out (Or.inl (by omega))
    · have HTT := Lib.hid fun W hG => (tx_two (HTW.out W hG)).2.2.1 htc
      go_wp2_with fail
      go_meet
      refine ⟨_, _, rfl, fun W hG => ?_, ?_, ?_, ?_, ?_⟩
      · rw [HNM.out]; exact HTT.out W hG
      · exact heap_set HL7.out 1 _
      · exact heap_far HP7.out (by omega)
      · exact heap_far HZ7.out (by omega)
      · exact grown_set HG7.out (Or.inl (by omega))
  case rest =>
    obtain ⟨ma, mc, rfl, HMT, HL8, HP8, HZ8, HG8⟩ := hcut
    have HDN : Hid (dnE ([qn, e1, [y2], [y3]] :: r2) = if Nu.mnE y2 = 0 then Nu.riE y3 4 else Nu.mnE y2) := by show _ = _; unfold dnE; rw [if_pos (by rw [HOK.out, HE1.out, HP0e.out]; have : 2 ≤ n1 := (by omega); simp [this])]; rfl
    have HDX : Hid (dnX ([qn, e1, [y2], [y3]] :: r2) = ⟨p1, ms, 0, Nu.riV y3 4, Nu.mnV y2, 0⟩) := by show _ = _; rw [HE1.out]; rfl
    clear HOK HTW HML HP0e HKC HKT HL7 HP7 HZ7 HG7 h2 h2'
    generalize n1 - 2 = nm at *
    generalize wc = w8 at *
    have hmem1 : ([qn, e1, [y2], [y3]] : Sg) ∈ l := hg1 ▸ List.getElem_mem la1
    have hy2 : y2.length ≤ 65536 := hs _ hmem1 [y2] (by simp) y2 (by simp)
    have hy3 : y3.length ≤ 65536 := hs _ hmem1 [y3] (by simp) y3 (by simp)
    have HE2 : Hid (∀ W, w.grownBy W (some p) → SgBox p (some ⟨b, o, none⟩) l.length lc a2 W → Calls Tryz.prog 34 #[.pointer (some ⟨p, 0, none⟩), .int .i64 2] W fun e w' => e = .returned (.string (mk y2)) ∧ Below W.heap.size W w') := fun W hG hp => HEl.out W 2 y2 hG hp rfl (by omega)
    have HE3 : Hid (∀ W, w.grownBy W (some p) → SgBox p (some ⟨b, o, none⟩) l.length lc a2 W → Calls Tryz.prog 34 #[.pointer (some ⟨p, 0, none⟩), .int .i64 3] W fun e w' => e = .returned (.string (mk y3)) ∧ Below W.heap.size W w') := fun W hG hp => HEl.out W 3 y3 hG hp rfl (by omega)
    have HM2 : Hid (∀ W : World, Calls Tryz.prog 70 #[.string (mk y2)] W fun e w' => e = .returned (.tuple #[.int .i64 (Nu.mnV y2), .int .i64 (Nu.mnE y2)]) ∧ Below W.heap.size W w') := fun W => rmoney_tx y2 W hy2
    have HM3 : Hid (∀ W : World, Calls Tryz.prog 33 #[.string (mk y3), .int .i64 4] W fun e w' => e = .returned (.tuple #[.int .i64 (Nu.riV y3 4), .int .i64 (Nu.riE y3 4)]) ∧ Below W.heap.size W w') := fun W => rint_tx y3 4 W
    clear hy2 hy3 hmem1 HEl
    have HV2 : Hid (Nu.mnV y2 = Nu.mnV y2) := rfl
    obtain ⟨V2, hV2⟩ : ∃ V2, V2 = Nu.mnV y2 := ⟨_, rfl⟩
    obtain ⟨V3, hV3⟩ : ∃ V3, V3 = Nu.riV y3 4 := ⟨_, rfl⟩
    rw [← hV2] at HM2 HDX
    rw [← hV3] at HM3 HDX
    clear hV2 hV3 HV2
    go_wp2_with fail
    go_at_call 34
    refine (HE2.out _ HG8.out HP8.out).mono ?_
    rintro z w9 ⟨rfl, hb⟩
    have HP9 := Lib.hid (HP8.out.grw hb)
    have HZ9 := Lib.hid (keepB HZ8.out hb)
    have HL9 := Lib.hid (keepB HL8.out hb)
    have HG9 := Lib.hid (grown_below HG8.out hb)
    clear hb
    clear HP8 HL8 HZ8 HG8
    by_cases hm0 : Nu.mnE y2 = 0
    case neg =>
      have hne : (Nu.mnE y2 != 0) = true := by simpa using hm0
      obtain ⟨E2, hE2⟩ : ∃ E2, E2 = Nu.mnE y2 := ⟨_, rfl⟩
      rw [← hE2] at HM2 hne hm0 HDN
      clear hE2
      go_wp2_with fail
      go_at_call 70
      refine (HM2.out _).mono ?_
      rintro z w10 ⟨rfl, hb⟩
      have HP10 := Lib.hid (HP9.out.grw hb)
      have HZ10 := Lib.hid (keepB HZ9.out hb)
      have HL10 := Lib.hid (keepB HL9.out hb)
      have HG10 := Lib.hid (grown_below HG9.out hb)
      clear hb
      have HX : Hid (EE = E2) := by show _ = _; rw [HEr.out, HRf.out]; rw [if_neg hm0] at HDN; rw [rsv_dn (by rw [HDN.out]; exact hm0), HDN.out]
      obtain ⟨b0, b1⟩ := HP10.out.cells
      have bf := Lib.frozen_of_heap HP10.out 1
      obtain ⟨l0, l1, l2, l3, l4, l5⟩ := line_cells HL10.out
      obtain ⟨g0, g1, g2, g3, g4, g5⟩ := line_frozen HL10.out
      obtain ⟨d0, d1, d2, d3, d4, d5⟩ := line_cells HZ10.out
      obtain ⟨f0, f1, f2, f3, f4, f5⟩ := line_frozen HZ10.out
      go_wp2
      clear b0 b1 bf l0 l1 l2 l3 l4 l5 g0 g1 g2 g3 g4 g5 d0 d1 d2 d3 d4 d5 f0 f1 f2 f3 f4 f5
      have HZF : Hid (((((((w10.setCell ⟨w.heap.size, 0, none⟩ (.string (mk p1))).setCell ⟨w.heap.size, 1, none⟩ (.slice ma nm mc)).setCell ⟨w.heap.size, 2, none⟩ (.int .i64 0)).setCell ⟨w.heap.size, 3, none⟩ (.int .i64 0)).setCell ⟨w.heap.size, 4, none⟩ (.int .i64 0)).setCell ⟨w.heap.size, 5, none⟩ (.int .i64 0)).heap[w.heap.size]? = some (.cells #[.string (mk p1), .slice ma nm mc, .int .i64 0, .int .i64 0, .int .i64 0, .int .i64 0] 47 (0, 0))) := put6_heap HZ10.out
      have HGF : Hid (w.grownBy ((((((w10.setCell ⟨w.heap.size, 0, none⟩ (.string (mk p1))).setCell ⟨w.heap.size, 1, none⟩ (.slice ma nm mc)).setCell ⟨w.heap.size, 2, none⟩ (.int .i64 0)).setCell ⟨w.heap.size, 3, none⟩ (.int .i64 0)).setCell ⟨w.heap.size, 4, none⟩ (.int .i64 0)).setCell ⟨w.heap.size, 5, none⟩ (.int .i64 0)) (some p)) := grown_put6 HG10.out (Nat.le_refl _) _ _ _ _ _ _
      generalize ((((((w10.setCell ⟨w.heap.size, 0, none⟩ (.string (mk p1))).setCell ⟨w.heap.size, 1, none⟩ (.slice ma nm mc)).setCell ⟨w.heap.size, 2, none⟩ (.int .i64 0)).setCell ⟨w.heap.size, 3, none⟩ (.int .i64 0)).setCell ⟨w.heap.size, 4, none⟩ (.int .i64 0)).setCell ⟨w.heap.size, 5, none⟩ (.int .i64 0)) = wz at *
      obtain ⟨e0, e1', e2, e3, e4, e5⟩ := line_cells HZF.out
      refine bodyPost_ret (v := .tuple #[.agg #[.string (mk p1), .slice ma nm mc, .int .i64 0, .int .i64 0, .int .i64 0, .int .i64 0], .int .i64 (E2)]) (by simp [results, Tryz.results71, go_sem, e0, e1', e2, e3, e4, e5]) rfl ?_
      exact ⟨⟨⟨p1, ms, 0, 0, 0, 0⟩, ma, nm, mc, by rw [HX.out] <;> rfl, fun h => absurd (HX.out.symm.trans h) (hm0)⟩, HGF.out⟩
    rw [hm0] at HM2
    rw [if_pos hm0] at HDN
    clear hm0
    go_wp2_with fail
    go_at_call 70
    refine (HM2.out _).mono ?_
    rintro z w10 ⟨rfl, hb⟩
    have HP10 := Lib.hid (HP9.out.grw hb)
    have HZ10 := Lib.hid (keepB HZ9.out hb)
    have HL10 := Lib.hid (keepB HL9.out hb)
    have HG10 := Lib.hid (grown_below HG9.out hb)
    clear hb
    go_wp2_with fail
    go_at_call 34
    refine (HE3.out _ HG10.out HP10.out).mono ?_
    rintro z w11 ⟨rfl, hb⟩
    have HP11 := Lib.hid (HP10.out.grw hb)
    have HZ11 := Lib.hid (keepB HZ10.out hb)
    have HL11 := Lib.hid (keepB HL10.out hb)
    have HG11 := Lib.hid (grown_below HG10.out hb)
    clear hb
    by_cases hu0 : Nu.riE y3 4 = 0
    case neg =>
      have hne : (Nu.riE y3 4 != 0) = true := by simpa using hu0
      obtain ⟨E3, hE3⟩ : ∃ E3, E3 = Nu.riE y3 4 := ⟨_, rfl⟩
      rw [← hE3] at HM3 hne hu0 HDN
      clear hE3
      go_wp2_with fail
      go_at_call 33
      refine (HM3.out _).mono ?_
      rintro z w12 ⟨rfl, hb⟩
      have HP12 := Lib.hid (HP11.out.grw hb)
      have HZ12 := Lib.hid (keepB HZ11.out hb)
      have HL12 := Lib.hid (keepB HL11.out hb)
      have HG12 := Lib.hid (grown_below HG11.out hb)
      clear hb
      have HX : Hid (EE = E3) := by show _ = _; rw [HEr.out, HRf.out]; rw [rsv_dn (by rw [HDN.out]; exact hu0), HDN.out]
      obtain ⟨b0, b1⟩ := HP12.out.cells
      have bf := Lib.frozen_of_heap HP12.out 1
      obtain ⟨l0, l1, l2, l3, l4, l5⟩ := line_cells HL12.out
      obtain ⟨g0, g1, g2, g3, g4, g5⟩ := line_frozen HL12.out
      obtain ⟨d0, d1, d2, d3, d4, d5⟩ := line_cells HZ12.out
      obtain ⟨f0, f1, f2, f3, f4, f5⟩ := line_frozen HZ12.out
      go_wp2
      clear b0 b1 bf l0 l1 l2 l3 l4 l5 g0 g1 g2 g3 g4 g5 d0 d1 d2 d3 d4 d5 f0 f1 f2 f3 f4 f5
      have HZF : Hid (((((((w12.setCell ⟨w.heap.size, 0, none⟩ (.string (mk p1))).setCell ⟨w.heap.size, 1, none⟩ (.slice ma nm mc)).setCell ⟨w.heap.size, 2, none⟩ (.int .i64 0)).setCell ⟨w.heap.size, 3, none⟩ (.int .i64 0)).setCell ⟨w.heap.size, 4, none⟩ (.int .i64 0)).setCell ⟨w.heap.size, 5, none⟩ (.int .i64 0)).heap[w.heap.size]? = some (.cells #[.string (mk p1), .slice ma nm mc, .int .i64 0, .int .i64 0, .int .i64 0, .int .i64 0] 47 (0, 0))) := put6_heap HZ12.out
      have HGF : Hid (w.grownBy ((((((w12.setCell ⟨w.heap.size, 0, none⟩ (.string (mk p1))).setCell ⟨w.heap.size, 1, none⟩ (.slice ma nm mc)).setCell ⟨w.heap.size, 2, none⟩ (.int .i64 0)).setCell ⟨w.heap.size, 3, none⟩ (.int .i64 0)).setCell ⟨w.heap.size, 4, none⟩ (.int .i64 0)).setCell ⟨w.heap.size, 5, none⟩ (.int .i64 0)) (some p)) := grown_put6 HG12.out (Nat.le_refl _) _ _ _ _ _ _
      generalize ((((((w12.setCell ⟨w.heap.size, 0, none⟩ (.string (mk p1))).setCell ⟨w.heap.size, 1, none⟩ (.slice ma nm mc)).setCell ⟨w.heap.size, 2, none⟩ (.int .i64 0)).setCell ⟨w.heap.size, 3, none⟩ (.int .i64 0)).setCell ⟨w.heap.size, 4, none⟩ (.int .i64 0)).setCell ⟨w.heap.size, 5, none⟩ (.int .i64 0)) = wz at *
      obtain ⟨e0, e1', e2, e3, e4, e5⟩ := line_cells HZF.out
      refine bodyPost_ret (v := .tuple #[.agg #[.string (mk p1), .slice ma nm mc, .int .i64 0, .int .i64 0, .int .i64 0, .int .i64 0], .int .i64 (E3)]) (by simp [results, Tryz.results71, go_sem, e0, e1', e2, e3, e4, e5]) rfl ?_
      exact ⟨⟨⟨p1, ms, 0, 0, 0, 0⟩, ma, nm, mc, by rw [HX.out] <;> rfl, fun h => absurd (HX.out.symm.trans h) (hu0)⟩, HGF.out⟩
    rw [hu0] at HM3 HDN
    clear hu0
    have HEd : Hid (EE = if dyE r2 = 0 then (if amB r2.tail = true then (if amOk r2.tail = true then 0 else 8) else 0) else dyE r2) := by show _ = _; rw [HEr.out, HRf.out]; unfold svE; rw [if_pos HDN.out]; rfl
    have HCd : Hid (∀ W, w.grownBy W (some p) → SgBox p (some ⟨b, o, none⟩) l.length lc a2 W → Calls Tryz.prog 32 #[.pointer (some ⟨p, 0, none⟩), .string ⟨#[68, 84, 80]⟩, .int .i64 3, .int .i64 (-1)] W fun e w' => e = .returned (.bool (txB r2 tDTP 2)) ∧ Below W.heap.size W w') := fun W hG hp => by
      have := HIs.out W a2 3 tDTP (-1) hG hp (by omega) (by omega) (by omega)
      rw [HLD2.out, is_tx] at this
      exact this
    go_wp2_with fail
    go_at_call 33
    refine (HM3.out _).mono ?_
    rintro z w12 ⟨rfl, hb⟩
    have HP12 := Lib.hid (HP11.out.grw hb)
    have HZ12 := Lib.hid (keepB HZ11.out hb)
    have HL12 := Lib.hid (keepB HL11.out hb)
    have HG12 := Lib.hid (grown_below HG11.out hb)
    clear hb
    clear HM2 HM3 HE2 HE3 HEr
    cases hD : txB r2 tDTP 2
    · rw [hD] at HCd
      go_wp2_with fail
      go_at_call 32
      refine (HCd.out _ HG12.out HP12.out).mono ?_
      rintro z w13 ⟨rfl, hb⟩
      have HP13 := Lib.hid (HP12.out.grw hb)
      have HZ13 := Lib.hid (keepB HZ12.out hb)
      have HL13 := Lib.hid (keepB HL12.out hb)
      have HG13 := Lib.hid (grown_below HG12.out hb)
      clear hb
      have HX : Hid (EE = 4) := by show _ = _; rw [HEd.out, rdy_no hD]; rfl
      obtain ⟨b0, b1⟩ := HP13.out.cells
      have bf := Lib.frozen_of_heap HP13.out 1
      obtain ⟨l0, l1, l2, l3, l4, l5⟩ := line_cells HL13.out
      obtain ⟨g0, g1, g2, g3, g4, g5⟩ := line_frozen HL13.out
      obtain ⟨d0, d1, d2, d3, d4, d5⟩ := line_cells HZ13.out
      obtain ⟨f0, f1, f2, f3, f4, f5⟩ := line_frozen HZ13.out
      go_wp2
      clear b0 b1 bf l0 l1 l2 l3 l4 l5 g0 g1 g2 g3 g4 g5 d0 d1 d2 d3 d4 d5 f0 f1 f2 f3 f4 f5
      have HZF : Hid (((((((w13.setCell ⟨w.heap.size, 0, none⟩ (.string (mk p1))).setCell ⟨w.heap.size, 1, none⟩ (.slice ma nm mc)).setCell ⟨w.heap.size, 2, none⟩ (.int .i64 0)).setCell ⟨w.heap.size, 3, none⟩ (.int .i64 0)).setCell ⟨w.heap.size, 4, none⟩ (.int .i64 0)).setCell ⟨w.heap.size, 5, none⟩ (.int .i64 0)).heap[w.heap.size]? = some (.cells #[.string (mk p1), .slice ma nm mc, .int .i64 0, .int .i64 0, .int .i64 0, .int .i64 0] 47 (0, 0))) := put6_heap HZ13.out
      have HGF : Hid (w.grownBy ((((((w13.setCell ⟨w.heap.size, 0, none⟩ (.string (mk p1))).setCell ⟨w.heap.size, 1, none⟩ (.slice ma nm mc)).setCell ⟨w.heap.size, 2, none⟩ (.int .i64 0)).setCell ⟨w.heap.size, 3, none⟩ (.int .i64 0)).setCell ⟨w.heap.size, 4, none⟩ (.int .i64 0)).setCell ⟨w.heap.size, 5, none⟩ (.int .i64 0)) (some p)) := grown_put6 HG13.out (Nat.le_refl _) _ _ _ _ _ _
      generalize ((((((w13.setCell ⟨w.heap.size, 0, none⟩ (.string (mk p1))).setCell ⟨w.heap.size, 1, none⟩ (.slice ma nm mc)).setCell ⟨w.heap.size, 2, none⟩ (.int .i64 0)).setCell ⟨w.heap.size, 3, none⟩ (.int .i64 0)).setCell ⟨w.heap.size, 4, none⟩ (.int .i64 0)).setCell ⟨w.heap.size, 5, none⟩ (.int .i64 0)) = wz at *
      obtain ⟨e0, e1', e2, e3, e4, e5⟩ := line_cells HZF.out
      refine bodyPost_ret (v := .tuple #[.agg #[.string (mk p1), .slice ma nm mc, .int .i64 0, .int .i64 0, .int .i64 0, .int .i64 0], .int .i64 (4)]) (by simp [results, Tryz.results71, go_sem, e0, e1', e2, e3, e4, e5]) rfl ?_
      exact ⟨⟨⟨p1, ms, 0, 0, 0, 0⟩, ma, nm, mc, by rw [HX.out] <;> rfl, fun h => absurd (HX.out.symm.trans h) (by decide)⟩, HGF.out⟩
    rw [hD] at HCd
    go_wp2_with fail
    go_at_call 32
    refine (HCd.out _ HG12.out HP12.out).mono ?_
    rintro z w13 ⟨rfl, hb⟩
    have HP13 := Lib.hid (HP12.out.grw hb)
    have HZ13 := Lib.hid (keepB HZ12.out hb)
    have HL13 := Lib.hid (keepB HL12.out hb)
    have HG13 := Lib.hid (grown_below HG12.out hb)
    clear hb
    obtain ⟨pd, d1, d2, r3, hr2, -⟩ := tx2_form hD
    have HDY : Hid (dyOk r2 = decide (d1 = t472) ∧ tx r2 2 = d2 ∧ r2.tail = r3) := ⟨by unfold dyOk; rw [hD, hr2]; rfl, by rw [hr2]; rfl, by rw [hr2]; rfl⟩
    rw [hr2] at HLD2
    obtain ⟨la2, hg2, hd2⟩ := at_drop HLD2.out
    have HD2 := Lib.hid hd2
    have hmem2 : ([pd, [d1], [d2]] : Sg) ∈ l := hg2 ▸ List.getElem_mem la2
    have HRf2 := Lib.hid hr2
    clear hr2 hd2 hD HCd
    obtain ⟨a3, ha3⟩ : ∃ a3 : Nat, a3 = a2 + 1 := ⟨_, rfl⟩
    have HAa3 := Lib.hid ha3
    have la3 : a3 ≤ l.length := by omega
    clear ha3
    obtain ⟨b0, b1⟩ := HP13.out.cells
    have bf := Lib.frozen_of_heap HP13.out 1
    go_upto_region 22 with fail
    have HP14 : Hid (SgBox p (some ⟨b, o, none⟩) l.length lc a3 (w13.setCell ⟨p, 1, none⟩ (.int .i64 ((a2 : Int) + 1)))) := HP13.out.set _ (by rw [HAa3.out]; simp)
    have HZ14 := Lib.hid (heap_far (j := 1) (u := (.int .i64 ((a2 : Int) + 1))) HZ13.out (show w.heap.size ≠ p by omega))
    have HL14 := Lib.hid (heap_far (j := 1) (u := (.int .i64 ((a2 : Int) + 1))) HL13.out (show w.heap.size + 1 ≠ p by omega))
    have HG14 : Hid (w.grownBy (w13.setCell ⟨p, 1, none⟩ (.int .i64 ((a2 : Int) + 1))) (some p)) := grown_set HG13.out (Or.inr rfl)
    generalize w13.setCell ⟨p, 1, none⟩ (.int .i64 ((a2 : Int) + 1)) = w14 at *
    clear b0 b1 bf HP13 HZ13 HL13 HG13
    have HLD3 : Hid (l.drop a3 = r3) := by show _ = _; rw [HAa3.out]; exact HD2.out
    have HE1' : Hid (∀ W, w.grownBy W (some p) → SgBox p (some ⟨b, o, none⟩) l.length lc a3 W → Calls Tryz.prog 34 #[.pointer (some ⟨p, 0, none⟩), .int .i64 1] W fun e w' => e = .returned (.string (mk d1)) ∧ Below W.heap.size W w') := fun W hG hp => rel_at p _ lc a2 1 l _ r3 d1 W (by rw [← HAa3.out]; exact hp) (HSA.out W hG) hl HLD2.out rfl (by omega)
    have HE2' : Hid (∀ W, w.grownBy W (some p) → SgBox p (some ⟨b, o, none⟩) l.length lc a3 W → Calls Tryz.prog 34 #[.pointer (some ⟨p, 0, none⟩), .int .i64 2] W fun e w' => e = .returned (.string (mk d2)) ∧ Below W.heap.size W w') := fun W hG hp => rel_at p _ lc a2 2 l _ r3 d2 W (by rw [← HAa3.out]; exact hp) (HSA.out W hG) hl HLD2.out rfl (by omega)
    have HM8 : Hid (∀ W : World, Calls Tryz.prog 33 #[.string (mk d2), .int .i64 8] W fun e w' => e = .returned (.tuple #[.int .i64 (Nu.riV d2 8), .int .i64 (Nu.riE d2 8)]) ∧ Below W.heap.size W w') := fun W => rint_tx d2 8 W
    have heq : ((mk d1).toList == [52, 55, 50]) = decide (d1 = t472) := mk_lit d1 t472
    obtain ⟨V8, hV8⟩ : ∃ V8, V8 = Nu.riV d2 8 := ⟨_, rfl⟩
    rw [← hV8] at HM8
    have HV8 := Lib.hid hV8
    clear hV8
    go_wp2_with fail
    go_at_call 34
    refine (HE1'.out _ HG14.out HP14.out).mono ?_
    rintro z w15 ⟨rfl, hb⟩
    have HP15 := Lib.hid (HP14.out.grw hb)
    have HZ15 := Lib.hid (keepB HZ14.out hb)
    have HL15 := Lib.hid (keepB HL14.out hb)
    have HG15 := Lib.hid (grown_below HG14.out hb)
    clear hb
    by_cases h47 : d1 = t472
    case neg =>
      rw [decide_eq_false h47] at heq
      have HX : Hid (EE = 4) := by show _ = _; rw [HEd.out, rdy_bad (by rw [HDY.out.1, decide_eq_false h47])]; rfl
      obtain ⟨b0, b1⟩ := HP15.out.cells
      have bf := Lib.frozen_of_heap HP15.out 1
      obtain ⟨l0, l1, l2, l3, l4, l5⟩ := line_cells HL15.out
      obtain ⟨g0, g1, g2, g3, g4, g5⟩ := line_frozen HL15.out
      obtain ⟨d0, d1, d2, d3, d4, d5⟩ := line_cells HZ15.out
      obtain ⟨f0, f1, f2, f3, f4, f5⟩ := line_frozen HZ15.out
      go_wp2
      clear b0 b1 bf l0 l1 l2 l3 l4 l5 g0 g1 g2 g3 g4 g5 d0 d1 d2 d3 d4 d5 f0 f1 f2 f3 f4 f5
      have HZF : Hid (((((((w15.setCell ⟨w.heap.size, 0, none⟩ (.string (mk p1))).setCell ⟨w.heap.size, 1, none⟩ (.slice ma nm mc)).setCell ⟨w.heap.size, 2, none⟩ (.int .i64 0)).setCell ⟨w.heap.size, 3, none⟩ (.int .i64 0)).setCell ⟨w.heap.size, 4, none⟩ (.int .i64 0)).setCell ⟨w.heap.size, 5, none⟩ (.int .i64 0)).heap[w.heap.size]? = some (.cells #[.string (mk p1), .slice ma nm mc, .int .i64 0, .int .i64 0, .int .i64 0, .int .i64 0] 47 (0, 0))) := put6_heap HZ15.out
      have HGF : Hid (w.grownBy ((((((w15.setCell ⟨w.heap.size, 0, none⟩ (.string (mk p1))).setCell ⟨w.heap.size, 1, none⟩ (.slice ma nm mc)).setCell ⟨w.heap.size, 2, none⟩ (.int .i64 0)).setCell ⟨w.heap.size, 3, none⟩ (.int .i64 0)).setCell ⟨w.heap.size, 4, none⟩ (.int .i64 0)).setCell ⟨w.heap.size, 5, none⟩ (.int .i64 0)) (some p)) := grown_put6 HG15.out (Nat.le_refl _) _ _ _ _ _ _
      generalize ((((((w15.setCell ⟨w.heap.size, 0, none⟩ (.string (mk p1))).setCell ⟨w.heap.size, 1, none⟩ (.slice ma nm mc)).setCell ⟨w.heap.size, 2, none⟩ (.int .i64 0)).setCell ⟨w.heap.size, 3, none⟩ (.int .i64 0)).setCell ⟨w.heap.size, 4, none⟩ (.int .i64 0)).setCell ⟨w.heap.size, 5, none⟩ (.int .i64 0)) = wz at *
      obtain ⟨e0, e1', e2, e3, e4, e5⟩ := line_cells HZF.out
      refine bodyPost_ret (v := .tuple #[.agg #[.string (mk p1), .slice ma nm mc, .int .i64 0, .int .i64 0, .int .i64 0, .int .i64 0], .int .i64 (4)]) (by simp [results, Tryz.results71, go_sem, e0, e1', e2, e3, e4, e5]) rfl ?_
      exact ⟨⟨⟨p1, ms, 0, 0, 0, 0⟩, ma, nm, mc, by rw [HX.out] <;> rfl, fun h => absurd (HX.out.symm.trans h) (by decide)⟩, HGF.out⟩
    rw [decide_eq_true h47] at heq
    have HOk2 : Hid (dyOk r2 = true) := by show _ = _; rw [HDY.out.1, decide_eq_true h47]
    clear h47
    go_wp2_with fail
    go_at_call 34
    refine (HE2'.out _ HG15.out HP15.out).mono ?_
    rintro z w16 ⟨rfl, hb⟩
    have HP16 := Lib.hid (HP15.out.grw hb)
    have HZ16 := Lib.hid (keepB HZ15.out hb)
    have HL16 := Lib.hid (keepB HL15.out hb)
    have HG16 := Lib.hid (grown_below HG15.out hb)
    clear hb
    clear heq
    by_cases h80 : Nu.riE d2 8 = 0
    case neg =>
      have hne : (Nu.riE d2 8 != 0) = true := by simpa using h80
      have HD7 : Hid (dyE r2 = 7) := by show _ = _; unfold dyE; rw [if_pos HOk2.out, HDY.out.2.1, if_neg h80]
      clear h80
      generalize Nu.riE d2 8 = E8 at *
      go_wp2_with fail
      go_at_call 33
      refine (HM8.out _).mono ?_
      rintro z w17 ⟨rfl, hb⟩
      have HP17 := Lib.hid (HP16.out.grw hb)
      have HZ17 := Lib.hid (keepB HZ16.out hb)
      have HL17 := Lib.hid (keepB HL16.out hb)
      have HG17 := Lib.hid (grown_below HG16.out hb)
      clear hb
      have HX : Hid (EE = 7) := by show _ = _; rw [HEd.out, HD7.out]; rfl
      obtain ⟨b0, b1⟩ := HP17.out.cells
      have bf := Lib.frozen_of_heap HP17.out 1
      obtain ⟨l0, l1, l2, l3, l4, l5⟩ := line_cells HL17.out
      obtain ⟨g0, g1, g2, g3, g4, g5⟩ := line_frozen HL17.out
      obtain ⟨d0, d1, d2, d3, d4, d5⟩ := line_cells HZ17.out
      obtain ⟨f0, f1, f2, f3, f4, f5⟩ := line_frozen HZ17.out
      go_wp2
      clear b0 b1 bf l0 l1 l2 l3 l4 l5 g0 g1 g2 g3 g4 g5 d0 d1 d2 d3 d4 d5 f0 f1 f2 f3 f4 f5
      have HZF : Hid (((((((w17.setCell ⟨w.heap.size, 0, none⟩ (.string (mk p1))).setCell ⟨w.heap.size, 1, none⟩ (.slice ma nm mc)).setCell ⟨w.heap.size, 2, none⟩ (.int .i64 0)).setCell ⟨w.heap.size, 3, none⟩ (.int .i64 0)).setCell ⟨w.heap.size, 4, none⟩ (.int .i64 0)).setCell ⟨w.heap.size, 5, none⟩ (.int .i64 0)).heap[w.heap.size]? = some (.cells #[.string (mk p1), .slice ma nm mc, .int .i64 0, .int .i64 0, .int .i64 0, .int .i64 0] 47 (0, 0))) := put6_heap HZ17.out
      have HGF : Hid (w.grownBy ((((((w17.setCell ⟨w.heap.size, 0, none⟩ (.string (mk p1))).setCell ⟨w.heap.size, 1, none⟩ (.slice ma nm mc)).setCell ⟨w.heap.size, 2, none⟩ (.int .i64 0)).setCell ⟨w.heap.size, 3, none⟩ (.int .i64 0)).setCell ⟨w.heap.size, 4, none⟩ (.int .i64 0)).setCell ⟨w.heap.size, 5, none⟩ (.int .i64 0)) (some p)) := grown_put6 HG17.out (Nat.le_refl _) _ _ _ _ _ _
      generalize ((((((w17.setCell ⟨w.heap.size, 0, none⟩ (.string (mk p1))).setCell ⟨w.heap.size, 1, none⟩ (.slice ma nm mc)).setCell ⟨w.heap.size, 2, none⟩ (.int .i64 0)).setCell ⟨w.heap.size, 3, none⟩ (.int .i64 0)).setCell ⟨w.heap.size, 4, none⟩ (.int .i64 0)).setCell ⟨w.heap.size, 5, none⟩ (.int .i64 0)) = wz at *
      obtain ⟨e0, e1', e2, e3, e4, e5⟩ := line_cells HZF.out
      refine bodyPost_ret (v := .tuple #[.agg #[.string (mk p1), .slice ma nm mc, .int .i64 0, .int .i64 0, .int .i64 0, .int .i64 0], .int .i64 (7)]) (by simp [results, Tryz.results71, go_sem, e0, e1', e2, e3, e4, e5]) rfl ?_
      exact ⟨⟨⟨p1, ms, 0, 0, 0, 0⟩, ma, nm, mc, by rw [HX.out] <;> rfl, fun h => absurd (HX.out.symm.trans h) (by decide)⟩, HGF.out⟩
    have HD0 : Hid (dyE r2 = 0 ∧ dyV r2 = V8) := by
      have h1 : dyE r2 = 0 := by unfold dyE; rw [if_pos HOk2.out, HDY.out.2.1, if_pos h80]
      exact ⟨h1, by unfold dyV; rw [if_pos h1, HDY.out.2.1, HV8.out]⟩
    rw [h80] at HM8
    clear h80
    go_wp2_with fail
    go_at_call 33
    refine (HM8.out _).mono ?_
    rintro z w17 ⟨rfl, hb⟩
    have HP17 := Lib.hid (HP16.out.grw hb)
    have HZ17 := Lib.hid (keepB HZ16.out hb)
    have HL17 := Lib.hid (keepB HL16.out hb)
    have HG17 := Lib.hid (grown_below HG16.out hb)
    clear hb
    obtain ⟨b0, b1⟩ := HP17.out.cells
    have bf := Lib.frozen_of_heap HP17.out 1
    obtain ⟨l0, l1, l2, l3, l4, l5⟩ := line_cells HL17.out
    obtain ⟨g0, g1, g2, g3, g4, g5⟩ := line_frozen HL17.out
    go_upto_region 30 with fail
    have HL18 : Hid ((((w17.setCell ⟨w.heap.size + 1, 4, none⟩ (.int .i64 V2)).setCell ⟨w.heap.size + 1, 3, none⟩ (.int .i64 V3)).setCell ⟨w.heap.size + 1, 2, none⟩ (.int .i64 V8)).heap[w.heap.size + 1]? = some (.cells #[.string (mk p1), .slice ma nm mc, .int .i64 V8, .int .i64 V3, .int .i64 V2, .int .i64 0] 47 (0, 0))) := heap_set (heap_set (heap_set (HL17.out) 4 (.int .i64 V2)) 3 (.int .i64 V3)) 2 (.int .i64 V8)
    have HP18 : Hid (SgBox p (some ⟨b, o, none⟩) l.length lc a3 (((w17.setCell ⟨w.heap.size + 1, 4, none⟩ (.int .i64 V2)).setCell ⟨w.heap.size + 1, 3, none⟩ (.int .i64 V3)).setCell ⟨w.heap.size + 1, 2, none⟩ (.int .i64 V8))) := heap_far (j := 2) (u := .int .i64 V8) (heap_far (j := 3) (u := .int .i64 V3) (heap_far (j := 4) (u := .int .i64 V2) (HP17.out) (show p ≠ w.heap.size + 1 by omega)) (show p ≠ w.heap.size + 1 by omega)) (show p ≠ w.heap.size + 1 by omega)
    have HZ18 := Lib.hid (heap_far (j := 2) (u := .int .i64 V8) (heap_far (j := 3) (u := .int .i64 V3) (heap_far (j := 4) (u := .int .i64 V2) (HZ17.out) (show w.heap.size ≠ w.heap.size + 1 by omega)) (show w.heap.size ≠ w.heap.size + 1 by omega)) (show w.heap.size ≠ w.heap.size + 1 by omega))
    have HG18 := Lib.hid (grown_set (j := 2) (v := .int .i64 V8) (grown_set (j := 3) (v := .int .i64 V3) (grown_set (j := 4) (v := .int .i64 V2) (HG17.out) (Or.inl (show w.heap.size ≤ w.heap.size + 1 by omega))) (Or.inl (show w.heap.size ≤ w.heap.size + 1 by omega))) (Or.inl (show w.heap.size ≤ w.heap.size + 1 by omega)))
    generalize (((w17.setCell ⟨w.heap.size + 1, 4, none⟩ (.int .i64 V2)).setCell ⟨w.heap.size + 1, 3, none⟩ (.int .i64 V3)).setCell ⟨w.heap.size + 1, 2, none⟩ (.int .i64 V8)) = w18 at *
    clear b0 b1 bf l0 l1 l2 l3 l4 l5 g0 g1 g2 g3 g4 g5 HP17 HZ17 HL17 HG17
    have HCa : Hid (∀ W, w.grownBy W (some p) → SgBox p (some ⟨b, o, none⟩) l.length lc a3 W → Calls Tryz.prog 32 #[.pointer (some ⟨p, 0, none⟩), .string ⟨#[65, 77, 84]⟩, .int .i64 3, .int .i64 (-1)] W fun e w' => e = .returned (.bool (amB r3)) ∧ Below W.heap.size W w') := fun W hG hp => by
      have := HIs.out W a3 3 tAMT (-1) hG hp (by omega) (by omega) (by omega)
      rw [HLD3.out, is_tx] at this
      exact this
    have HEa : Hid (EE = if amB r3 = true then (if amOk r3 = true then 0 else 8) else 0) := by show _ = _; rw [HEd.out, if_pos HD0.out.1, HDY.out.2.2]
    have HXa : Hid (svX R = ⟨p1, ms, V8, V3, V2, if amB r3 = true then Nu.mnV (tx r3 2) else 0⟩) := by
      show _ = _
      rw [HRf.out]
      show (⟨_, _, dyV r2, _, _, if amB r2.tail = true then Nu.mnV (tx r2.tail 2) else 0⟩ : Ln) = _
      rw [HDX.out, HD0.out.2, HDY.out.2.2]
    have HNa : Hid (svN R = if amB r3 = true then r3.tail else r3) := by
      show _ = _
      rw [HRf.out]
      show (if amB r2.tail = true then r2.tail.tail else r2.tail) = _
      rw [HDY.out.2.2]
    have hlt3 : a < a3 := by have q1 := HAa1.out; have q2 := HAa2.out; have q3 := HAa3.out; omega
    clear HM8 HE1' HE2' HEd
    cases hA : amB r3
    · rw [hA] at HCa
      go_wp2_with fail
      go_at_call 32
      refine (HCa.out _ HG18.out HP18.out).mono ?_
      rintro z w19 ⟨rfl, hb⟩
      have HP19 := Lib.hid (HP18.out.grw hb)
      have HZ19 := Lib.hid (keepB HZ18.out hb)
      have HL19 := Lib.hid (keepB HL18.out hb)
      have HG19 := Lib.hid (grown_below HG18.out hb)
      clear hb
      have HX : Hid (EE = 0) := by show _ = _; rw [HEa.out, hA]; rfl
      obtain ⟨b0, b1⟩ := HP19.out.cells
      have bf := Lib.frozen_of_heap HP19.out 1
      obtain ⟨l0, l1, l2, l3, l4, l5⟩ := line_cells HL19.out
      obtain ⟨g0, g1, g2, g3, g4, g5⟩ := line_frozen HL19.out
      obtain ⟨d0, d1, d2, d3, d4, d5⟩ := line_cells HZ19.out
      obtain ⟨f0, f1, f2, f3, f4, f5⟩ := line_frozen HZ19.out
      go_wp2
      clear b0 b1 bf l0 l1 l2 l3 l4 l5 g0 g1 g2 g3 g4 g5 d0 d1 d2 d3 d4 d5 f0 f1 f2 f3 f4 f5
      have HZF : Hid (((((((w19.setCell ⟨w.heap.size, 0, none⟩ (.string (mk p1))).setCell ⟨w.heap.size, 1, none⟩ (.slice ma nm mc)).setCell ⟨w.heap.size, 2, none⟩ (.int .i64 V8)).setCell ⟨w.heap.size, 3, none⟩ (.int .i64 V3)).setCell ⟨w.heap.size, 4, none⟩ (.int .i64 V2)).setCell ⟨w.heap.size, 5, none⟩ (.int .i64 0)).heap[w.heap.size]? = some (.cells #[.string (mk p1), .slice ma nm mc, .int .i64 V8, .int .i64 V3, .int .i64 V2, .int .i64 0] 47 (0, 0))) := put6_heap HZ19.out
      have HGF : Hid (w.grownBy ((((((w19.setCell ⟨w.heap.size, 0, none⟩ (.string (mk p1))).setCell ⟨w.heap.size, 1, none⟩ (.slice ma nm mc)).setCell ⟨w.heap.size, 2, none⟩ (.int .i64 V8)).setCell ⟨w.heap.size, 3, none⟩ (.int .i64 V3)).setCell ⟨w.heap.size, 4, none⟩ (.int .i64 V2)).setCell ⟨w.heap.size, 5, none⟩ (.int .i64 0)) (some p)) := grown_put6 HG19.out (Nat.le_refl _) _ _ _ _ _ _
      have HPF : Hid (SgBox p (some ⟨b, o, none⟩) l.length lc a3 ((((((w19.setCell ⟨w.heap.size, 0, none⟩ (.string (mk p1))).setCell ⟨w.heap.size, 1, none⟩ (.slice ma nm mc)).setCell ⟨w.heap.size, 2, none⟩ (.int .i64 V8)).setCell ⟨w.heap.size, 3, none⟩ (.int .i64 V3)).setCell ⟨w.heap.size, 4, none⟩ (.int .i64 V2)).setCell ⟨w.heap.size, 5, none⟩ (.int .i64 0))) := heap_far (heap_far (heap_far (heap_far (heap_far (heap_far HP19.out (by omega)) (by omega)) (by omega)) (by omega)) (by omega)) (by omega)
      generalize ((((((w19.setCell ⟨w.heap.size, 0, none⟩ (.string (mk p1))).setCell ⟨w.heap.size, 1, none⟩ (.slice ma nm mc)).setCell ⟨w.heap.size, 2, none⟩ (.int .i64 V8)).setCell ⟨w.heap.size, 3, none⟩ (.int .i64 V3)).setCell ⟨w.heap.size, 4, none⟩ (.int .i64 V2)).setCell ⟨w.heap.size, 5, none⟩ (.int .i64 0)) = wz at *
      obtain ⟨e0, e1', e2, e3, e4, e5⟩ := line_cells HZF.out
      refine bodyPost_ret (v := .tuple #[.agg #[.string (mk p1), .slice ma nm mc, .int .i64 V8, .int .i64 V3, .int .i64 V2, .int .i64 0], .int .i64 (0)]) (by simp [results, Tryz.results71, go_sem, e0, e1', e2, e3, e4, e5]) rfl ?_
      exact ⟨⟨⟨p1, ms, V8, V3, V2, 0⟩, ma, nm, mc, by rw [HX.out] <;> rfl, fun _ => ⟨by rw [HXa.out, hA]; rfl, HMT.out _ HGF.out, a3, HPF.out, by rw [HNa.out, hA]; exact HLD3.out, la3, hlt3⟩⟩, HGF.out⟩
    rw [hA] at HCa
    go_wp2_with fail
    go_at_call 32
    refine (HCa.out _ HG18.out HP18.out).mono ?_
    rintro z w19 ⟨rfl, hb⟩
    have HP19 := Lib.hid (HP18.out.grw hb)
    have HZ19 := Lib.hid (keepB HZ18.out hb)
    have HL19 := Lib.hid (keepB HL18.out hb)
    have HG19 := Lib.hid (grown_below HG18.out hb)
    clear hb
    obtain ⟨pa, q1, q2, r4, hr3, -⟩ := tx2_form hA
    have HAO : Hid (amOk r3 = (decide (q1 = tD) && (decide (Nu.mnE q2 = 0) && decide (Nu.mnV q2 ≠ 0))) ∧ tx r3 2 = q2 ∧ r3.tail = r4) := by rw [hr3]; exact ⟨rfl, rfl, rfl⟩
    rw [hr3] at HLD3
    obtain ⟨lb3, hg3, hd3⟩ := at_drop HLD3.out
    have HD3 := Lib.hid hd3
    have hmem3 : ([pa, [q1], [q2]] : Sg) ∈ l := hg3 ▸ List.getElem_mem lb3
    have hq2 : q2.length ≤ 65536 := hs _ hmem3 [q2] (by simp) q2 (by simp)
    clear hr3 hd3 HCa
    obtain ⟨a4, ha4⟩ : ∃ a4 : Nat, a4 = a3 + 1 := ⟨_, rfl⟩
    have HAa4 := Lib.hid ha4
    have la4 : a4 ≤ l.length := by omega
    clear ha4
    obtain ⟨b0, b1⟩ := HP19.out.cells
    have bf := Lib.frozen_of_heap HP19.out 1
    go_upto_region 33 with fail
    have HP20 : Hid (SgBox p (some ⟨b, o, none⟩) l.length lc a4 (w19.setCell ⟨p, 1, none⟩ (.int .i64 ((a3 : Int) + 1)))) := HP19.out.set _ (by rw [HAa4.out]; simp)
    have HZ20 := Lib.hid (heap_far (j := 1) (u := (.int .i64 ((a3 : Int) + 1))) HZ19.out (show w.heap.size ≠ p by omega))
    have HL20 := Lib.hid (heap_far (j := 1) (u := (.int .i64 ((a3 : Int) + 1))) HL19.out (show w.heap.size + 1 ≠ p by omega))
    have HG20 : Hid (w.grownBy (w19.setCell ⟨p, 1, none⟩ (.int .i64 ((a3 : Int) + 1))) (some p)) := grown_set HG19.out (Or.inr rfl)
    generalize w19.setCell ⟨p, 1, none⟩ (.int .i64 ((a3 : Int) + 1)) = w20 at *
    clear b0 b1 bf HP19 HZ19 HL19 HG19
    have HLD4 : Hid (l.drop a4 = r4) := by show _ = _; rw [HAa4.out]; exact HD3.out
    have HE1' : Hid (∀ W, w.grownBy W (some p) → SgBox p (some ⟨b, o, none⟩) l.length lc a4 W → Calls Tryz.prog 34 #[.pointer (some ⟨p, 0, none⟩), .int .i64 1] W fun e w' => e = .returned (.string (mk q1)) ∧ Below W.heap.size W w') := fun W hG hp => rel_at p _ lc a3 1 l _ r4 q1 W (by rw [← HAa4.out]; exact hp) (HSA.out W hG) hl HLD3.out rfl (by omega)
    have HE2' : Hid (∀ W, w.grownBy W (some p) → SgBox p (some ⟨b, o, none⟩) l.length lc a4 W → Calls Tryz.prog 34 #[.pointer (some ⟨p, 0, none⟩), .int .i64 2] W fun e w' => e = .returned (.string (mk q2)) ∧ Below W.heap.size W w') := fun W hG hp => rel_at p _ lc a3 2 l _ r4 q2 W (by rw [← HAa4.out]; exact hp) (HSA.out W hG) hl HLD3.out rfl (by omega)
    have HM9 : Hid (∀ W : World, Calls Tryz.prog 70 #[.string (mk q2)] W fun e w' => e = .returned (.tuple #[.int .i64 (Nu.mnV q2), .int .i64 (Nu.mnE q2)]) ∧ Below W.heap.size W w') := fun W => rmoney_tx q2 W hq2
    have heq : ((mk q1).toList == [68]) = decide (q1 = tD) := mk_lit q1 tD
    have hlt4 : a < a4 := by have q4 := HAa4.out; omega
    obtain ⟨V9, hV9⟩ : ∃ V9, V9 = Nu.mnV q2 := ⟨_, rfl⟩
    rw [← hV9] at HM9 HAO
    have HV9 := Lib.hid hV9
    clear hV9 hq2
    go_wp2_with fail
    go_at_call 34
    refine (HE2'.out _ HG20.out HP20.out).mono ?_
    rintro z w21 ⟨rfl, hb⟩
    have HP21 := Lib.hid (HP20.out.grw hb)
    have HZ21 := Lib.hid (keepB HZ20.out hb)
    have HL21 := Lib.hid (keepB HL20.out hb)
    have HG21 := Lib.hid (grown_below HG20.out hb)
    clear hb
    by_cases h90 : Nu.mnE q2 = 0
    case neg =>
      have hne : (Nu.mnE q2 != 0) = true := by simpa using h90
      have HF : Hid (amOk r3 = false) := by show _ = _; rw [HAO.out.1, decide_eq_false h90, Bool.false_and, Bool.and_false]
      clear h90
      generalize Nu.mnE q2 = E9 at *
      go_wp2_with fail
      go_at_call 70
      refine (HM9.out _).mono ?_
      rintro z w22 ⟨rfl, hb⟩
      have HP22 := Lib.hid (HP21.out.grw hb)
      have HZ22 := Lib.hid (keepB HZ21.out hb)
      have HL22 := Lib.hid (keepB HL21.out hb)
      have HG22 := Lib.hid (grown_below HG21.out hb)
      clear hb
      have HX : Hid (EE = 8) := by show _ = _; rw [HEa.out, hA, HF.out]; rfl
      obtain ⟨b0, b1⟩ := HP22.out.cells
      have bf := Lib.frozen_of_heap HP22.out 1
      obtain ⟨l0, l1, l2, l3, l4, l5⟩ := line_cells HL22.out
      obtain ⟨g0, g1, g2, g3, g4, g5⟩ := line_frozen HL22.out
      obtain ⟨d0, d1, d2, d3, d4, d5⟩ := line_cells HZ22.out
      obtain ⟨f0, f1, f2, f3, f4, f5⟩ := line_frozen HZ22.out
      go_wp2
      clear b0 b1 bf l0 l1 l2 l3 l4 l5 g0 g1 g2 g3 g4 g5 d0 d1 d2 d3 d4 d5 f0 f1 f2 f3 f4 f5
      have HZF : Hid (((((((w22.setCell ⟨w.heap.size, 0, none⟩ (.string (mk p1))).setCell ⟨w.heap.size, 1, none⟩ (.slice ma nm mc)).setCell ⟨w.heap.size, 2, none⟩ (.int .i64 V8)).setCell ⟨w.heap.size, 3, none⟩ (.int .i64 V3)).setCell ⟨w.heap.size, 4, none⟩ (.int .i64 V2)).setCell ⟨w.heap.size, 5, none⟩ (.int .i64 0)).heap[w.heap.size]? = some (.cells #[.string (mk p1), .slice ma nm mc, .int .i64 V8, .int .i64 V3, .int .i64 V2, .int .i64 0] 47 (0, 0))) := put6_heap HZ22.out
      have HGF : Hid (w.grownBy ((((((w22.setCell ⟨w.heap.size, 0, none⟩ (.string (mk p1))).setCell ⟨w.heap.size, 1, none⟩ (.slice ma nm mc)).setCell ⟨w.heap.size, 2, none⟩ (.int .i64 V8)).setCell ⟨w.heap.size, 3, none⟩ (.int .i64 V3)).setCell ⟨w.heap.size, 4, none⟩ (.int .i64 V2)).setCell ⟨w.heap.size, 5, none⟩ (.int .i64 0)) (some p)) := grown_put6 HG22.out (Nat.le_refl _) _ _ _ _ _ _
      generalize ((((((w22.setCell ⟨w.heap.size, 0, none⟩ (.string (mk p1))).setCell ⟨w.heap.size, 1, none⟩ (.slice ma nm mc)).setCell ⟨w.heap.size, 2, none⟩ (.int .i64 V8)).setCell ⟨w.heap.size, 3, none⟩ (.int .i64 V3)).setCell ⟨w.heap.size, 4, none⟩ (.int .i64 V2)).setCell ⟨w.heap.size, 5, none⟩ (.int .i64 0)) = wz at *
      obtain ⟨e0, e1', e2, e3, e4, e5⟩ := line_cells HZF.out
      refine bodyPost_ret (v := .tuple #[.agg #[.string (mk p1), .slice ma nm mc, .int .i64 V8, .int .i64 V3, .int .i64 V2, .int .i64 0], .int .i64 (8)]) (by simp [results, Tryz.results71, go_sem, e0, e1', e2, e3, e4, e5]) rfl ?_
      exact ⟨⟨⟨p1, ms, V8, V3, V2, 0⟩, ma, nm, mc, by rw [HX.out] <;> rfl, fun h => absurd (HX.out.symm.trans h) (by decide)⟩, HGF.out⟩
    rw [h90] at HM9
    go_wp2_with fail
    go_at_call 70
    refine (HM9.out _).mono ?_
    rintro z w22 ⟨rfl, hb⟩
    have HP22 := Lib.hid (HP21.out.grw hb)
    have HZ22 := Lib.hid (keepB HZ21.out hb)
    have HL22 := Lib.hid (keepB HL21.out hb)
    have HG22 := Lib.hid (grown_below HG21.out hb)
    clear hb
    by_cases hv9 : V9 = 0
    case pos =>
      have hz9 : (V9 == 0) = true := by simpa using hv9
      have HF : Hid (amOk r3 = false) := by show _ = _; rw [HAO.out.1, decide_eq_false (show ¬ V9 ≠ 0 from fun h => h hv9), Bool.and_false, Bool.and_false]
      clear hv9 h90
      have HX : Hid (EE = 8) := by show _ = _; rw [HEa.out, hA, HF.out]; rfl
      obtain ⟨b0, b1⟩ := HP22.out.cells
      have bf := Lib.frozen_of_heap HP22.out 1
      obtain ⟨l0, l1, l2, l3, l4, l5⟩ := line_cells HL22.out
      obtain ⟨g0, g1, g2, g3, g4, g5⟩ := line_frozen HL22.out
      obtain ⟨d0, d1, d2, d3, d4, d5⟩ := line_cells HZ22.out
      obtain ⟨f0, f1, f2, f3, f4, f5⟩ := line_frozen HZ22.out
      go_wp2
      clear b0 b1 bf l0 l1 l2 l3 l4 l5 g0 g1 g2 g3 g4 g5 d0 d1 d2 d3 d4 d5 f0 f1 f2 f3 f4 f5
      have HZF : Hid (((((((w22.setCell ⟨w.heap.size, 0, none⟩ (.string (mk p1))).setCell ⟨w.heap.size, 1, none⟩ (.slice ma nm mc)).setCell ⟨w.heap.size, 2, none⟩ (.int .i64 V8)).setCell ⟨w.heap.size, 3, none⟩ (.int .i64 V3)).setCell ⟨w.heap.size, 4, none⟩ (.int .i64 V2)).setCell ⟨w.heap.size, 5, none⟩ (.int .i64 0)).heap[w.heap.size]? = some (.cells #[.string (mk p1), .slice ma nm mc, .int .i64 V8, .int .i64 V3, .int .i64 V2, .int .i64 0] 47 (0, 0))) := put6_heap HZ22.out
      have HGF : Hid (w.grownBy ((((((w22.setCell ⟨w.heap.size, 0, none⟩ (.string (mk p1))).setCell ⟨w.heap.size, 1, none⟩ (.slice ma nm mc)).setCell ⟨w.heap.size, 2, none⟩ (.int .i64 V8)).setCell ⟨w.heap.size, 3, none⟩ (.int .i64 V3)).setCell ⟨w.heap.size, 4, none⟩ (.int .i64 V2)).setCell ⟨w.heap.size, 5, none⟩ (.int .i64 0)) (some p)) := grown_put6 HG22.out (Nat.le_refl _) _ _ _ _ _ _
      generalize ((((((w22.setCell ⟨w.heap.size, 0, none⟩ (.string (mk p1))).setCell ⟨w.heap.size, 1, none⟩ (.slice ma nm mc)).setCell ⟨w.heap.size, 2, none⟩ (.int .i64 V8)).setCell ⟨w.heap.size, 3, none⟩ (.int .i64 V3)).setCell ⟨w.heap.size, 4, none⟩ (.int .i64 V2)).setCell ⟨w.heap.size, 5, none⟩ (.int .i64 0)) = wz at *
      obtain ⟨e0, e1', e2, e3, e4, e5⟩ := line_cells HZF.out
      refine bodyPost_ret (v := .tuple #[.agg #[.string (mk p1), .slice ma nm mc, .int .i64 V8, .int .i64 V3, .int .i64 V2, .int .i64 0], .int .i64 (8)]) (by simp [results, Tryz.results71, go_sem, e0, e1', e2, e3, e4, e5]) rfl ?_
      exact ⟨⟨⟨p1, ms, V8, V3, V2, 0⟩, ma, nm, mc, by rw [HX.out] <;> rfl, fun h => absurd (HX.out.symm.trans h) (by decide)⟩, HGF.out⟩
    have hz9 : (V9 == 0) = false := by simpa using hv9
    go_wp2_with fail
    go_at_call 34
    refine (HE1'.out _ HG22.out HP22.out).mono ?_
    rintro z w23 ⟨rfl, hb⟩
    have HP23 := Lib.hid (HP22.out.grw hb)
    have HZ23 := Lib.hid (keepB HZ22.out hb)
    have HL23 := Lib.hid (keepB HL22.out hb)
    have HG23 := Lib.hid (grown_below HG22.out hb)
    clear hb
    by_cases hqd : q1 = tD
    case neg =>
      rw [decide_eq_false hqd] at heq
      have HF : Hid (amOk r3 = false) := by show _ = _; rw [HAO.out.1, decide_eq_false hqd, Bool.false_and]
      clear hv9 h90 hqd
      have HX : Hid (EE = 8) := by show _ = _; rw [HEa.out, hA, HF.out]; rfl
      obtain ⟨b0, b1⟩ := HP23.out.cells
      have bf := Lib.frozen_of_heap HP23.out 1
      obtain ⟨l0, l1, l2, l3, l4, l5⟩ := line_cells HL23.out
      obtain ⟨g0, g1, g2, g3, g4, g5⟩ := line_frozen HL23.out
      obtain ⟨d0, d1, d2, d3, d4, d5⟩ := line_cells HZ23.out
      obtain ⟨f0, f1, f2, f3, f4, f5⟩ := line_frozen HZ23.out
      go_wp2
      clear b0 b1 bf l0 l1 l2 l3 l4 l5 g0 g1 g2 g3 g4 g5 d0 d1 d2 d3 d4 d5 f0 f1 f2 f3 f4 f5
      have HZF : Hid (((((((w23.setCell ⟨w.heap.size, 0, none⟩ (.string (mk p1))).setCell ⟨w.heap.size, 1, none⟩ (.slice ma nm mc)).setCell ⟨w.heap.size, 2, none⟩ (.int .i64 V8)).setCell ⟨w.heap.size, 3, none⟩ (.int .i64 V3)).setCell ⟨w.heap.size, 4, none⟩ (.int .i64 V2)).setCell ⟨w.heap.size, 5, none⟩ (.int .i64 0)).heap[w.heap.size]? = some (.cells #[.string (mk p1), .slice ma nm mc, .int .i64 V8, .int .i64 V3, .int .i64 V2, .int .i64 0] 47 (0, 0))) := put6_heap HZ23.out
      have HGF : Hid (w.grownBy ((((((w23.setCell ⟨w.heap.size, 0, none⟩ (.string (mk p1))).setCell ⟨w.heap.size, 1, none⟩ (.slice ma nm mc)).setCell ⟨w.heap.size, 2, none⟩ (.int .i64 V8)).setCell ⟨w.heap.size, 3, none⟩ (.int .i64 V3)).setCell ⟨w.heap.size, 4, none⟩ (.int .i64 V2)).setCell ⟨w.heap.size, 5, none⟩ (.int .i64 0)) (some p)) := grown_put6 HG23.out (Nat.le_refl _) _ _ _ _ _ _
      generalize ((((((w23.setCell ⟨w.heap.size, 0, none⟩ (.string (mk p1))).setCell ⟨w.heap.size, 1, none⟩ (.slice ma nm mc)).setCell ⟨w.heap.size, 2, none⟩ (.int .i64 V8)).setCell ⟨w.heap.size, 3, none⟩ (.int .i64 V3)).setCell ⟨w.heap.size, 4, none⟩ (.int .i64 V2)).setCell ⟨w.heap.size, 5, none⟩ (.int .i64 0)) = wz at *
      obtain ⟨e0, e1', e2, e3, e4, e5⟩ := line_cells HZF.out
      refine bodyPost_ret (v := .tuple #[.agg #[.string (mk p1), .slice ma nm mc, .int .i64 V8, .int .i64 V3, .int .i64 V2, .int .i64 0], .int .i64 (8)]) (by simp [results, Tryz.results71, go_sem, e0, e1', e2, e3, e4, e5]) rfl ?_
      exact ⟨⟨⟨p1, ms, V8, V3, V2, 0⟩, ma, nm, mc, by rw [HX.out] <;> rfl, fun h => absurd (HX.out.symm.trans h) (by decide)⟩, HGF.out⟩
    rw [decide_eq_true hqd] at heq
    have HT : Hid (amOk r3 = true) := by show _ = _; rw [HAO.out.1, decide_eq_true hqd, decide_eq_true h90, decide_eq_true hv9]; rfl
    clear hv9 h90 hqd
    obtain ⟨b0, b1⟩ := HP23.out.cells
    have bf := Lib.frozen_of_heap HP23.out 1
    obtain ⟨l0, l1, l2, l3, l4, l5⟩ := line_cells HL23.out
    obtain ⟨g0, g1, g2, g3, g4, g5⟩ := line_frozen HL23.out
    go_upto_region 37 with fail
    have HL24 : Hid ((w23.setCell ⟨w.heap.size + 1, 5, none⟩ (.int .i64 V9)).heap[w.heap.size + 1]? = some (.cells #[.string (mk p1), .slice ma nm mc, .int .i64 V8, .int .i64 V3, .int .i64 V2, .int .i64 V9] 47 (0, 0))) := heap_set (HL23.out) 5 (.int .i64 V9)
    have HP24 : Hid (SgBox p (some ⟨b, o, none⟩) l.length lc a4 (w23.setCell ⟨w.heap.size + 1, 5, none⟩ (.int .i64 V9))) := heap_far (j := 5) (u := .int .i64 V9) (HP23.out) (show p ≠ w.heap.size + 1 by omega)
    have HZ24 := Lib.hid (heap_far (j := 5) (u := .int .i64 V9) (HZ23.out) (show w.heap.size ≠ w.heap.size + 1 by omega))
    have HG24 := Lib.hid (grown_set (j := 5) (v := .int .i64 V9) (HG23.out) (Or.inl (show w.heap.size ≤ w.heap.size + 1 by omega)))
    generalize (w23.setCell ⟨w.heap.size + 1, 5, none⟩ (.int .i64 V9)) = w24 at *
    clear b0 b1 bf l0 l1 l2 l3 l4 l5 g0 g1 g2 g3 g4 g5 HP23 HZ23 HL23 HG23
    have HX : Hid (EE = 0) := by show _ = _; rw [HEa.out, hA, HT.out]; rfl
    obtain ⟨b0, b1⟩ := HP24.out.cells
    have bf := Lib.frozen_of_heap HP24.out 1
    obtain ⟨l0, l1, l2, l3, l4, l5⟩ := line_cells HL24.out
    obtain ⟨g0, g1, g2, g3, g4, g5⟩ := line_frozen HL24.out
    obtain ⟨d0, d1, d2, d3, d4, d5⟩ := line_cells HZ24.out
    obtain ⟨f0, f1, f2, f3, f4, f5⟩ := line_frozen HZ24.out
    go_wp2
    clear b0 b1 bf l0 l1 l2 l3 l4 l5 g0 g1 g2 g3 g4 g5 d0 d1 d2 d3 d4 d5 f0 f1 f2 f3 f4 f5
    have HZF : Hid (((((((w24.setCell ⟨w.heap.size, 0, none⟩ (.string (mk p1))).setCell ⟨w.heap.size, 1, none⟩ (.slice ma nm mc)).setCell ⟨w.heap.size, 2, none⟩ (.int .i64 V8)).setCell ⟨w.heap.size, 3, none⟩ (.int .i64 V3)).setCell ⟨w.heap.size, 4, none⟩ (.int .i64 V2)).setCell ⟨w.heap.size, 5, none⟩ (.int .i64 V9)).heap[w.heap.size]? = some (.cells #[.string (mk p1), .slice ma nm mc, .int .i64 V8, .int .i64 V3, .int .i64 V2, .int .i64 V9] 47 (0, 0))) := put6_heap HZ24.out
    have HGF : Hid (w.grownBy ((((((w24.setCell ⟨w.heap.size, 0, none⟩ (.string (mk p1))).setCell ⟨w.heap.size, 1, none⟩ (.slice ma nm mc)).setCell ⟨w.heap.size, 2, none⟩ (.int .i64 V8)).setCell ⟨w.heap.size, 3, none⟩ (.int .i64 V3)).setCell ⟨w.heap.size, 4, none⟩ (.int .i64 V2)).setCell ⟨w.heap.size, 5, none⟩ (.int .i64 V9)) (some p)) := grown_put6 HG24.out (Nat.le_refl _) _ _ _ _ _ _
    have HPF : Hid (SgBox p (some ⟨b, o, none⟩) l.length lc a4 ((((((w24.setCell ⟨w.heap.size, 0, none⟩ (.string (mk p1))).setCell ⟨w.heap.size, 1, none⟩ (.slice ma nm mc)).setCell ⟨w.heap.size, 2, none⟩ (.int .i64 V8)).setCell ⟨w.heap.size, 3, none⟩ (.int .i64 V3)).setCell ⟨w.heap.size, 4, none⟩ (.int .i64 V2)).setCell ⟨w.heap.size, 5, none⟩ (.int .i64 V9))) := heap_far (heap_far (heap_far (heap_far (heap_far (heap_far HP24.out (by omega)) (by omega)) (by omega)) (by omega)) (by omega)) (by omega)
    generalize ((((((w24.setCell ⟨w.heap.size, 0, none⟩ (.string (mk p1))).setCell ⟨w.heap.size, 1, none⟩ (.slice ma nm mc)).setCell ⟨w.heap.size, 2, none⟩ (.int .i64 V8)).setCell ⟨w.heap.size, 3, none⟩ (.int .i64 V3)).setCell ⟨w.heap.size, 4, none⟩ (.int .i64 V2)).setCell ⟨w.heap.size, 5, none⟩ (.int .i64 V9)) = wz at *
    obtain ⟨e0, e1', e2, e3, e4, e5⟩ := line_cells HZF.out
    refine bodyPost_ret (v := .tuple #[.agg #[.string (mk p1), .slice ma nm mc, .int .i64 V8, .int .i64 V3, .int .i64 V2, .int .i64 V9], .int .i64 (0)]) (by simp [results, Tryz.results71, go_sem, e0, e1', e2, e3, e4, e5]) rfl ?_
    exact ⟨⟨⟨p1, ms, V8, V3, V2, V9⟩, ma, nm, mc, by rw [HX.out] <;> rfl, fun _ => ⟨by rw [HXa.out, hA, HAO.out.2.1, HV9.out]; rfl, HMT.out _ HGF.out, a4, HPF.out, by rw [HNa.out, hA, HAO.out.2.2]; exact HLD4.out, la4, hlt4⟩⟩, HGF.out⟩
end Go.Proofs.YtpmnepihaljamaaGreatDoor
end
