/-
  Texts put together (merge.py): PWc.
-/
import Derived.Test.YtoibhgoaibjopaaGreatDoorMj20
import Derived.Test.YtoibhgoaibjopaaGreatDoorMj12
/-
  What the writer's condition and pair do, as contracts: a condition's words behind those that are there.
-/
section
set_option linter.unusedSimpArgs false
set_option linter.unusedVariables false
set_option maxRecDepth 100000
namespace Go.Proofs.YtoibhgoaibjopaaGreatDoor.Pl
open Go.RowKit
open Wo (Wd WdsAt box_cell box_two keepB heap_far)

abbrev DN (q : Nat) (ws : List Tx) (w : World) (e : Ending) (w' : World) : Prop := e = .returned (.tuple #[]) ∧ WrAt q ws w' ∧ KeptW q w w'
theorem tx3 {K : Nat → Prop} (w : World) (t s r : Tx) (hK : K w.heap.size) : TxAt K (w.alloc (.cells #[.string (mk t), .string (mk s), .string (mk r)] 9)) (.slice (some ⟨w.heap.size, 0, none⟩) 3 3) [t, s, r] := by
  refine ⟨_, 3, rfl, by simp, by simp [maxLen], Or.inr ⟨w.heap.size, 0, rfl, hK, by simp, fun j x hj => ?_⟩⟩
  have h := heap_alloc_new w (.cells #[.string (mk t), .string (mk s), .string (mk r)] 9)
  match j, hj with
  | 0, hj => simp at hj; subst hj; exact ⟨_, by rw [cell_of_row _ _ _ _ _ _ h]; rfl, rfl⟩
  | 1, hj => simp at hj; subst hj; exact ⟨_, by rw [cell_of_row _ _ _ _ _ _ h]; rfl, rfl⟩
  | 2, hj => simp at hj; subst hj; exact ⟨_, by rw [cell_of_row _ _ _ _ _ _ h]; rfl, rfl⟩
theorem add1 (q : Nat) (ws : List Tx) (t : Tx) (w : World) (h : WrAt q ws w) (hsz : szW ws + szW [t] ≤ 65537) :
    Calls Tryz.prog 29 #[.pointer (some ⟨q, 0, none⟩), .slice (some ⟨w.heap.size, 0, none⟩) 1 1] (w.alloc (.cells #[.string (mk t)] 9)) fun e w' => DN q (ws ++ [t]) w e w' := by
  have hb := below_alloc w (.cells #[.string (mk t)] 9)
  refine (add_any q ws [t] _ _ (h.grw hb) (tx1 w t (by have := h.lt; omega)) (by simp) hsz).mono ?_
  rintro e w' ⟨h1, h2, h3⟩
  exact ⟨h1, h2, (KeptW.of hb h.lt).trans h3⟩
theorem add2 (q : Nat) (ws : List Tx) (t s : Tx) (w : World) (h : WrAt q ws w) (hsz : szW ws + szW [t, s] ≤ 65537) :
    Calls Tryz.prog 29 #[.pointer (some ⟨q, 0, none⟩), .slice (some ⟨w.heap.size, 0, none⟩) 2 2] (w.alloc (.cells #[.string (mk t), .string (mk s)] 9)) fun e w' => DN q (ws ++ [t, s]) w e w' := by
  have hb := below_alloc w (.cells #[.string (mk t), .string (mk s)] 9)
  refine (add_any q ws [t, s] _ _ (h.grw hb) (tx2 w t s (by have := h.lt; omega)) (by simp) hsz).mono ?_
  rintro e w' ⟨h1, h2, h3⟩
  exact ⟨h1, h2, (KeptW.of hb h.lt).trans h3⟩
theorem add3 (q : Nat) (ws : List Tx) (t s r : Tx) (w : World) (h : WrAt q ws w) (hsz : szW ws + szW [t, s, r] ≤ 65537) :
    Calls Tryz.prog 29 #[.pointer (some ⟨q, 0, none⟩), .slice (some ⟨w.heap.size, 0, none⟩) 3 3] (w.alloc (.cells #[.string (mk t), .string (mk s), .string (mk r)] 9)) fun e w' => DN q (ws ++ [t, s, r]) w e w' := by
  have hb := below_alloc w (.cells #[.string (mk t), .string (mk s), .string (mk r)] 9)
  refine (add_any q ws [t, s, r] _ _ (h.grw hb) (tx3 w t s r (by have := h.lt; omega)) (by simp) hsz).mono ?_
  rintro e w' ⟨h1, h2, h3⟩
  exact ⟨h1, h2, (KeptW.of hb h.lt).trans h3⟩
/-- The table of powers, and the blocks that it lies in. -/
def TabQ (q : Nat) (w : World) : Prop := Nu.Tab w ∧ ∀ g, Tryz.prog.globalNamed "internal/strconv.uint64pow10" = some g → g < q
theorem TabQ.kept {q : Nat} {w w' : World} (h : TabQ q w) (hb : Below q w w') : TabQ q w' := by
  refine ⟨?_, h.2⟩
  have h1 := h.1
  have h2 := h.2
  unfold Nu.Tab Lib.TabIs World.var? at *
  cases hg : Tryz.prog.globalNamed "internal/strconv.uint64pow10" with
  | none => simp [hg] at h1
  | some g =>
    simp only [hg, Option.bind_some] at h1 ⊢
    have := hb.block g (h2 g hg)
    rw [this]; exact h1
theorem KsAt.lowq {q : Nat} {w w' : World} {v : Value} {ks : List Cd} (h : KsAt (fun b => b < q) w v ks) (hb : Below q w w') : KsAt (fun b => b < q) w' v ks := h.move (Below.moves_lo hb)
theorem box_kept {q b : Nat} {w w' : World} {cs : Array Value} {T : TypeId} (h : w.heap[b]? = some (.cells cs T (0, 0))) (hk : KeptW q w w') (hb : q < b) (hT : T ≠ 9) : w'.heap[b]? = some (.cells cs T (0, 0)) := hk.2.2 b cs T hb hT h
set_option maxHeartbeats 8000000 in
theorem wc_all (q : Nat) (ws : List Tx) (w : World) (h : WrAt q ws w) (hT : TabQ q w) (m : Value)  (hsz : szW ws + szW [tAll] ≤ 65537) :
    Calls Tryz.prog 32 #[.pointer (some ⟨q, 0, none⟩), .agg #[.int .i64 0, .string (mk []), .string (mk []), .int .i64 0, m]] w fun e w' => DN q (ws ++ [tAll]) w e w' := by
  have hq := h.lt
  have hb0 := below_alloc w (.cells #[.int .i64 0, .string (mk []), .string (mk []), .int .i64 0, m] 32)
  have HW0 := Lib.hid (h.grw hb0)
  have HK0 := Lib.hid (KeptW.of hb0 hq)
  have HT0 := Lib.hid (hT.kept (hb0.mono (Nat.le_of_lt hq)))
  have HB0 := Lib.hid (heap_alloc_new w (.cells #[.int .i64 0, .string (mk []), .string (mk []), .int .i64 0, m] 32))
  obtain ⟨x0, x1, x2, x3, x4⟩ := bfive HB0.out
  have hp0 : q < w.heap.size := hq
  clear h hb0 hT
  go_enter Tryz.func32, Tryz.ntmps32
  go_upto_region 1 with fail
  generalize w.alloc (.cells #[.int .i64 0, .string (mk []), .string (mk []), .int .i64 0, m] 32) = W0 at *
  generalize w.heap.size = p0 at *
  go_wp2_with fail
  go_at_call 29
  refine (add1 q ws tAll W0 HW0.out hsz).mono ?_
  rintro e w1 ⟨rfl, h1, h2⟩
  have H1 := Lib.hid h1
  have H2 := Lib.hid (HK0.out.trans h2)
  clear h1 h2
  go_wp2
  go_end0
  exact ⟨rfl, H1.out, H2.out⟩
set_option maxHeartbeats 8000000 in
theorem wc_out (q : Nat) (ws : List Tx) (w : World) (h : WrAt q ws w) (hT : TabQ q w) (m : Value)  (hsz : szW ws + szW [tOut] ≤ 65537) :
    Calls Tryz.prog 32 #[.pointer (some ⟨q, 0, none⟩), .agg #[.int .i64 5, .string (mk []), .string (mk []), .int .i64 0, m]] w fun e w' => DN q (ws ++ [tOut]) w e w' := by
  have hq := h.lt
  have hb0 := below_alloc w (.cells #[.int .i64 5, .string (mk []), .string (mk []), .int .i64 0, m] 32)
  have HW0 := Lib.hid (h.grw hb0)
  have HK0 := Lib.hid (KeptW.of hb0 hq)
  have HT0 := Lib.hid (hT.kept (hb0.mono (Nat.le_of_lt hq)))
  have HB0 := Lib.hid (heap_alloc_new w (.cells #[.int .i64 5, .string (mk []), .string (mk []), .int .i64 0, m] 32))
  obtain ⟨x0, x1, x2, x3, x4⟩ := bfive HB0.out
  have hp0 : q < w.heap.size := hq
  clear h hb0 hT
  go_enter Tryz.func32, Tryz.ntmps32
  go_upto_region 1 with fail
  generalize w.alloc (.cells #[.int .i64 5, .string (mk []), .string (mk []), .int .i64 0, m] 32) = W0 at *
  generalize w.heap.size = p0 at *
  go_wp2_with fail
  go_at_call 29
  refine (add1 q ws tOut W0 HW0.out hsz).mono ?_
  rintro e w1 ⟨rfl, h1, h2⟩
  have H1 := Lib.hid h1
  have H2 := Lib.hid (HK0.out.trans h2)
  clear h1 h2
  go_wp2
  go_end0
  exact ⟨rfl, H1.out, H2.out⟩
set_option maxHeartbeats 8000000 in
theorem wc_proc (q : Nat) (ws : List Tx) (w : World) (h : WrAt q ws w) (hT : TabQ q w) (m : Value) (lo hi : Tx) (hsz : szW ws + szW [tProc, lo, hi] ≤ 65537) :
    Calls Tryz.prog 32 #[.pointer (some ⟨q, 0, none⟩), .agg #[.int .i64 1, .string (mk lo), .string (mk hi), .int .i64 0, m]] w fun e w' => DN q (ws ++ [tProc, lo, hi]) w e w' := by
  have hq := h.lt
  have hb0 := below_alloc w (.cells #[.int .i64 1, .string (mk lo), .string (mk hi), .int .i64 0, m] 32)
  have HW0 := Lib.hid (h.grw hb0)
  have HK0 := Lib.hid (KeptW.of hb0 hq)
  have HT0 := Lib.hid (hT.kept (hb0.mono (Nat.le_of_lt hq)))
  have HB0 := Lib.hid (heap_alloc_new w (.cells #[.int .i64 1, .string (mk lo), .string (mk hi), .int .i64 0, m] 32))
  obtain ⟨x0, x1, x2, x3, x4⟩ := bfive HB0.out
  have hp0 : q < w.heap.size := hq
  clear h hb0 hT
  go_enter Tryz.func32, Tryz.ntmps32
  go_upto_region 1 with fail
  generalize w.alloc (.cells #[.int .i64 1, .string (mk lo), .string (mk hi), .int .i64 0, m] 32) = W0 at *
  generalize w.heap.size = p0 at *
  go_wp2_with fail
  go_at_call 29
  refine (add3 q ws tProc lo hi W0 HW0.out hsz).mono ?_
  rintro e w1 ⟨rfl, h1, h2⟩
  have H1 := Lib.hid h1
  have H2 := Lib.hid (HK0.out.trans h2)
  clear h1 h2
  go_wp2
  go_end0
  exact ⟨rfl, H1.out, H2.out⟩
set_option maxHeartbeats 8000000 in
theorem wc_mod (q : Nat) (ws : List Tx) (w : World) (h : WrAt q ws w) (hT : TabQ q w) (m : Value) (lo : Tx) (hsz : szW ws + szW [tMod, lo] ≤ 65537) :
    Calls Tryz.prog 32 #[.pointer (some ⟨q, 0, none⟩), .agg #[.int .i64 2, .string (mk lo), .string (mk []), .int .i64 0, m]] w fun e w' => DN q (ws ++ [tMod, lo]) w e w' := by
  have hq := h.lt
  have hb0 := below_alloc w (.cells #[.int .i64 2, .string (mk lo), .string (mk []), .int .i64 0, m] 32)
  have HW0 := Lib.hid (h.grw hb0)
  have HK0 := Lib.hid (KeptW.of hb0 hq)
  have HT0 := Lib.hid (hT.kept (hb0.mono (Nat.le_of_lt hq)))
  have HB0 := Lib.hid (heap_alloc_new w (.cells #[.int .i64 2, .string (mk lo), .string (mk []), .int .i64 0, m] 32))
  obtain ⟨x0, x1, x2, x3, x4⟩ := bfive HB0.out
  have hp0 : q < w.heap.size := hq
  clear h hb0 hT
  go_enter Tryz.func32, Tryz.ntmps32
  go_upto_region 1 with fail
  generalize w.alloc (.cells #[.int .i64 2, .string (mk lo), .string (mk []), .int .i64 0, m] 32) = W0 at *
  generalize w.heap.size = p0 at *
  go_wp2_with fail
  go_at_call 29
  refine (add2 q ws tMod lo W0 HW0.out hsz).mono ?_
  rintro e w1 ⟨rfl, h1, h2⟩
  have H1 := Lib.hid h1
  have H2 := Lib.hid (HK0.out.trans h2)
  clear h1 h2
  go_wp2
  go_end0
  exact ⟨rfl, H1.out, H2.out⟩
set_option maxHeartbeats 8000000 in
theorem wc_units (q : Nat) (ws : List Tx) (w : World) (h : WrAt q ws w) (hT : TabQ q w) (m : Value) (n : Int) (hn1 : -9223372036854775808 ≤ n) (hn2 : n ≤ 9223372036854775807) (hsz : szW ws + szW [tUnits, Lib.itoa n] ≤ 65537) :
    Calls Tryz.prog 32 #[.pointer (some ⟨q, 0, none⟩), .agg #[.int .i64 3, .string (mk []), .string (mk []), .int .i64 n, m]] w fun e w' => DN q (ws ++ [tUnits, Lib.itoa n]) w e w' := by
  have hq := h.lt
  have hb0 := below_alloc w (.cells #[.int .i64 3, .string (mk []), .string (mk []), .int .i64 n, m] 32)
  have HW0 := Lib.hid (h.grw hb0)
  have HK0 := Lib.hid (KeptW.of hb0 hq)
  have HT0 := Lib.hid (hT.kept (hb0.mono (Nat.le_of_lt hq)))
  have HB0 := Lib.hid (heap_alloc_new w (.cells #[.int .i64 3, .string (mk []), .string (mk []), .int .i64 n, m] 32))
  obtain ⟨x0, x1, x2, x3, x4⟩ := bfive HB0.out
  have hp0 : q < w.heap.size := hq
  have HI : Hid (∀ W, Nu.Tab W → Calls Tryz.prog 31 #[.int .i64 n] W fun e w' => e = .returned (.string (mk (Lib.itoa n))) ∧ Below W.heap.size W w') := fun W hW => Nu.int_any n hn1 hn2 W hW
  generalize Lib.itoa n = t at *
  clear h hb0 hT
  go_enter Tryz.func32, Tryz.ntmps32
  go_upto_region 1 with fail
  generalize w.alloc (.cells #[.int .i64 3, .string (mk []), .string (mk []), .int .i64 n, m] 32) = W0 at *
  generalize w.heap.size = p0 at *
  go_wp2_with fail
  go_at_call 31
  refine (HI.out W0 HT0.out.1).mono ?_
  rintro e w1 ⟨rfl, hb1⟩
  have HW1 := Lib.hid (HW0.out.grw hb1)
  have HK1 := Lib.hid (HK0.out.trans (KeptW.of hb1 HW0.out.lt))
  clear hb1
  go_wp2_with fail
  go_at_call 29
  refine (add2 q ws tUnits t w1 HW1.out hsz).mono ?_
  rintro e w2 ⟨rfl, h1, h2⟩
  have H1 := Lib.hid h1
  have H2 := Lib.hid (HK1.out.trans h2)
  clear h1 h2
  go_wp2
  go_end0
  exact ⟨rfl, H1.out, H2.out⟩
set_option maxHeartbeats 8000000 in
theorem wc_billed (q : Nat) (ws : List Tx) (w : World) (h : WrAt q ws w) (hT : TabQ q w) (m : Value) (n : Int) (hn1 : -9223372036854775808 ≤ n) (hn2 : n ≤ 9223372036854775807) (hsz : szW ws + szW [tBilled, Nu.moneyL n] ≤ 65537) :
    Calls Tryz.prog 32 #[.pointer (some ⟨q, 0, none⟩), .agg #[.int .i64 4, .string (mk []), .string (mk []), .int .i64 n, m]] w fun e w' => DN q (ws ++ [tBilled, Nu.moneyL n]) w e w' := by
  have hq := h.lt
  have hb0 := below_alloc w (.cells #[.int .i64 4, .string (mk []), .string (mk []), .int .i64 n, m] 32)
  have HW0 := Lib.hid (h.grw hb0)
  have HK0 := Lib.hid (KeptW.of hb0 hq)
  have HT0 := Lib.hid (hT.kept (hb0.mono (Nat.le_of_lt hq)))
  have HB0 := Lib.hid (heap_alloc_new w (.cells #[.int .i64 4, .string (mk []), .string (mk []), .int .i64 n, m] 32))
  obtain ⟨x0, x1, x2, x3, x4⟩ := bfive HB0.out
  have hp0 : q < w.heap.size := hq
  have HI : Hid (∀ W, Nu.Tab W → Calls Tryz.prog 30 #[.int .i64 n] W fun e w' => e = .returned (.string (mk (Nu.moneyL n))) ∧ Below W.heap.size W w') := fun W hW => Nu.money_any n hn1 hn2 W hW
  generalize Nu.moneyL n = t at *
  clear h hb0 hT
  go_enter Tryz.func32, Tryz.ntmps32
  go_upto_region 1 with fail
  generalize w.alloc (.cells #[.int .i64 4, .string (mk []), .string (mk []), .int .i64 n, m] 32) = W0 at *
  generalize w.heap.size = p0 at *
  go_wp2_with fail
  go_at_call 30
  refine (HI.out W0 HT0.out.1).mono ?_
  rintro e w1 ⟨rfl, hb1⟩
  have HW1 := Lib.hid (HW0.out.grw hb1)
  have HK1 := Lib.hid (HK0.out.trans (KeptW.of hb1 HW0.out.lt))
  clear hb1
  go_wp2_with fail
  go_at_call 29
  refine (add2 q ws tBilled t w1 HW1.out hsz).mono ?_
  rintro e w2 ⟨rfl, h1, h2⟩
  have H1 := Lib.hid h1
  have H2 := Lib.hid (HK1.out.trans h2)
  clear h1 h2
  go_wp2
  go_end0
  exact ⟨rfl, H1.out, H2.out⟩
set_option maxHeartbeats 8000000 in
theorem wc_not (q : Nat) (ws : List Tx) (w : World) (h : WrAt q ws w) (hT : TabQ q w) (f : Nat) (IH : ∀ (c : Cd) (m : Value) (ws : List Tx) (w : World), condB f c = true → KsAt (fun b => b < q) w m c.kids → WrAt q ws w → TabQ q w → szW ws + szW (condW f c) ≤ 65537 → Calls Tryz.prog 32 #[.pointer (some ⟨q, 0, none⟩), cdv c m] w fun e w' => DN q (ws ++ condW f c) w e w') (c : Cd) (hc : condB f c = true) (a : Option Addr) (k : Nat) (hk1 : 1 ≤ k) (hk2 : k ≤ 9223372036854775807) (hK : KsAt (fun b => b < q) w (.slice a 1 k) [c]) (hsz : szW ws + szW (tNot :: condW f c) ≤ 65537) :
    Calls Tryz.prog 32 #[.pointer (some ⟨q, 0, none⟩), .agg #[.int .i64 6, .string (mk []), .string (mk []), .int .i64 0, .slice a 1 k]] w fun e w' => DN q (ws ++ (tNot :: condW f c)) w e w' := by
  have hq := h.lt
  have hb0 := below_alloc w (.cells #[.int .i64 6, .string (mk []), .string (mk []), .int .i64 0, .slice a 1 k] 32)
  have HW0 := Lib.hid (h.grw hb0)
  have HK0 := Lib.hid (KeptW.of hb0 hq)
  have HT0 := Lib.hid (hT.kept (hb0.mono (Nat.le_of_lt hq)))
  have HB0 := Lib.hid (heap_alloc_new w (.cells #[.int .i64 6, .string (mk []), .string (mk []), .int .i64 0, .slice a 1 k] 32))
  obtain ⟨x0, x1, x2, x3, x4⟩ := bfive HB0.out
  have hp0 : q < w.heap.size := hq
  have HK := Lib.hid (hK.lowq (hb0.mono (Nat.le_of_lt hq)))
  clear hK
  clear h hb0 hT
  go_enter Tryz.func32, Tryz.ntmps32
  go_upto_region 1 with fail
  generalize w.alloc (.cells #[.int .i64 6, .string (mk []), .string (mk []), .int .i64 0, .slice a 1 k] 32) = W0 at *
  generalize w.heap.size = p0 at *
  have hsz1 : szW ws + szW [tNot] + szW (condW f c) ≤ 65537 := by rw [sz_cons] at hsz ⊢; rw [sz_nil]; omega
  go_wp2_with fail
  go_at_call 29
  refine (add1 q ws tNot W0 HW0.out (by omega)).mono ?_
  rintro e w1 ⟨rfl, h1, h2⟩
  have HW1 := Lib.hid h1
  have HK1 := Lib.hid (HK0.out.trans h2)
  have HT1 := Lib.hid (HT0.out.kept h2.1)
  have HKs1 := Lib.hid (HK.out.lowq h2.1)
  obtain ⟨z0, z1, z2, z3, z4⟩ := bfive (box_kept HB0.out h2 hp0 (by decide))
  obtain ⟨b, o, mv, rfl, hbs, hx, hcc, hkk, hok⟩ := KsAt.get HKs1.out 0 (by simp)
  simp only [List.getElem_cons_zero] at hcc hkk hok
  obtain ⟨y0, y1, y2, y3, y4⟩ := hcc
  simp only [Nat.zero_mul, Nat.add_zero] at y0 y1 y2 y3 y4
  obtain ⟨ma, mc, rfl, -, -⟩ := hkk.form
  have HC := Lib.hid (IH c _ _ w1 hc hkk HW1.out HT1.out (by rw [sz_app]; exact hsz1))
  clear h1 h2 hx hkk hok
  go_wp2_with fail
  go_at_call 32
  refine HC.out.mono ?_
  rintro e w2 ⟨rfl, h3, h4⟩
  have H1 := Lib.hid h3
  have H2 := Lib.hid (HK1.out.trans h4)
  clear h3 h4
  go_wp2
  go_end0
  exact ⟨rfl, by have := H1.out; rw [List.append_assoc] at this; exact this, H2.out⟩
set_option maxHeartbeats 8000000 in
theorem wc_pair (q : Nat) (ws : List Tx) (w : World) (h : WrAt q ws w) (hT : TabQ q w) (f : Nat) (IH : ∀ (c : Cd) (m : Value) (ws : List Tx) (w : World), condB f c = true → KsAt (fun b => b < q) w m c.kids → WrAt q ws w → TabQ q w → szW ws + szW (condW f c) ≤ 65537 → Calls Tryz.prog 32 #[.pointer (some ⟨q, 0, none⟩), cdv c m] w fun e w' => DN q (ws ++ condW f c) w e w') (c d : Cd) (hc : condB f c = true) (hd : condB f d = true) (a : Option Addr) (k : Nat) (hk1 : 2 ≤ k) (hk2 : k ≤ 9223372036854775807) (hK : KsAt (fun b => b < q) w (.slice a 2 k) [c, d]) (t : Tx) (hsz : szW ws + szW (tO :: (condW f c ++ (t :: (condW f d ++ [tC])))) ≤ 65537) :
    Calls Tryz.prog 55 #[.pointer (some ⟨q, 0, none⟩), .slice a 2 k, .string (mk t)] w fun e w' => DN q (ws ++ (tO :: (condW f c ++ (t :: (condW f d ++ [tC]))))) w e w' := by
  have hq := h.lt
  have hs : szW (tO :: (condW f c ++ (t :: (condW f d ++ [tC])))) = szW [tO] + (szW (condW f c) + (szW [t] + (szW (condW f d) + szW [tC]))) := by
    simp only [sz_cons, sz_app, sz_nil]
    try omega
  rw [hs] at hsz
  have HW0 := Lib.hid h
  have HT0 := Lib.hid hT
  have HKs0 := Lib.hid hK
  clear h hT hK hs
  go_enter Tryz.func55, Tryz.ntmps55
  go_wp2_with fail
  go_at_call 29
  refine (add1 q ws tO w HW0.out (by omega)).mono ?_
  rintro e w1 ⟨rfl, h1, h2⟩
  have HW1 := Lib.hid h1
  have HK1 := Lib.hid h2
  have HT1 := Lib.hid (HT0.out.kept h2.1)
  have HKs1 := Lib.hid (HKs0.out.lowq h2.1)
  clear h1 h2 HW0 HT0 HKs0
  obtain ⟨b, o, mv, rfl, hbs, hx, hcc, hkk, hok⟩ := KsAt.get HKs1.out 0 (by simp)
  simp only [List.getElem_cons_zero] at hcc hkk hok
  obtain ⟨y0, y1, y2, y3, y4⟩ := hcc
  simp only [Nat.zero_mul, Nat.add_zero] at y0 y1 y2 y3 y4
  obtain ⟨ma, mc, rfl, -, -⟩ := hkk.form
  have HC := Lib.hid (IH c _ _ w1 hc hkk HW1.out HT1.out (by rw [sz_app]; omega))
  clear hx hkk hok
  go_wp2_with fail
  go_at_call 32
  refine HC.out.mono ?_
  rintro e w2 ⟨rfl, h1, h2⟩
  have HW2 := Lib.hid h1
  have HK2 := Lib.hid (HK1.out.trans h2)
  have HT2 := Lib.hid (HT1.out.kept h2.1)
  have HKs2 := Lib.hid (HKs1.out.lowq h2.1)
  clear h1 h2 HW1 HT1 HKs1 HK1 HC y0 y1 y2 y3 y4
  go_wp2_with fail
  go_at_call 29
  refine (add1 q _ t w2 HW2.out (by simp only [sz_app]; omega)).mono ?_
  rintro e w3 ⟨rfl, h1, h2⟩
  have HW3 := Lib.hid h1
  have HK3 := Lib.hid (HK2.out.trans h2)
  have HT3 := Lib.hid (HT2.out.kept h2.1)
  have HKs3 := Lib.hid (HKs2.out.lowq h2.1)
  clear h1 h2 HW2 HT2 HKs2 HK2
  obtain ⟨b', o', mv', hbo, hbs', hx', hcc', hkk', hok'⟩ := KsAt.get HKs3.out 1 (by simp)
  simp only [Option.some.injEq, Addr.mk.injEq, and_true] at hbo
  obtain ⟨rfl, rfl⟩ := hbo
  simp only [List.getElem_cons_succ, List.getElem_cons_zero] at hcc' hkk' hok'
  obtain ⟨y0, y1, y2, y3, y4⟩ := hcc'
  simp only [Nat.one_mul] at y0 y1 y2 y3 y4
  obtain ⟨ma', mc', rfl, -, -⟩ := hkk'.form
  have HC := Lib.hid (IH d _ _ w3 hd hkk' HW3.out HT3.out (by simp only [sz_app]; omega))
  clear hx' hkk' hok'
  go_wp2_with fail
  go_at_call 32
  refine HC.out.mono ?_
  rintro e w4 ⟨rfl, h1, h2⟩
  have HW4 := Lib.hid h1
  have HK4 := Lib.hid (HK3.out.trans h2)
  clear h1 h2 HW3 HT3 HKs3 HK3 HC y0 y1 y2 y3 y4
  go_wp2_with fail
  go_at_call 29
  refine (add1 q _ tC w4 HW4.out (by simp only [sz_app]; omega)).mono ?_
  rintro e w5 ⟨rfl, h1, h2⟩
  have H1 := Lib.hid h1
  have H2 := Lib.hid (HK4.out.trans h2)
  clear h1 h2
  go_wp2
  go_end0
  exact ⟨rfl, by have := H1.out; simpa [List.append_assoc] using this, H2.out⟩
set_option maxHeartbeats 8000000 in
theorem wc_and (q : Nat) (ws : List Tx) (w : World) (h : WrAt q ws w) (hT : TabQ q w) (f : Nat) (IH : ∀ (c : Cd) (m : Value) (ws : List Tx) (w : World), condB f c = true → KsAt (fun b => b < q) w m c.kids → WrAt q ws w → TabQ q w → szW ws + szW (condW f c) ≤ 65537 → Calls Tryz.prog 32 #[.pointer (some ⟨q, 0, none⟩), cdv c m] w fun e w' => DN q (ws ++ condW f c) w e w') (c d : Cd) (hc : condB f c = true) (hd : condB f d = true) (a : Option Addr) (k : Nat) (hk1 : 2 ≤ k) (hk2 : k ≤ 9223372036854775807) (hK : KsAt (fun b => b < q) w (.slice a 2 k) [c, d]) (hsz : szW ws + szW (tO :: (condW f c ++ (tAnd :: (condW f d ++ [tC])))) ≤ 65537) :
    Calls Tryz.prog 32 #[.pointer (some ⟨q, 0, none⟩), .agg #[.int .i64 7, .string (mk []), .string (mk []), .int .i64 0, .slice a 2 k]] w fun e w' => DN q (ws ++ (tO :: (condW f c ++ (tAnd :: (condW f d ++ [tC]))))) w e w' := by
  have hq := h.lt
  have hb0 := below_alloc w (.cells #[.int .i64 7, .string (mk []), .string (mk []), .int .i64 0, .slice a 2 k] 32)
  have HW0 := Lib.hid (h.grw hb0)
  have HK0 := Lib.hid (KeptW.of hb0 hq)
  have HT0 := Lib.hid (hT.kept (hb0.mono (Nat.le_of_lt hq)))
  have HB0 := Lib.hid (heap_alloc_new w (.cells #[.int .i64 7, .string (mk []), .string (mk []), .int .i64 0, .slice a 2 k] 32))
  obtain ⟨x0, x1, x2, x3, x4⟩ := bfive HB0.out
  have hp0 : q < w.heap.size := hq
  have HK := Lib.hid (hK.lowq (hb0.mono (Nat.le_of_lt hq)))
  clear hK
  clear h hb0 hT
  go_enter Tryz.func32, Tryz.ntmps32
  go_upto_region 1 with fail
  generalize w.alloc (.cells #[.int .i64 7, .string (mk []), .string (mk []), .int .i64 0, .slice a 2 k] 32) = W0 at *
  generalize w.heap.size = p0 at *
  have HP := Lib.hid (wc_pair q ws W0 HW0.out HT0.out f IH c d hc hd a k hk1 hk2 HK.out tAnd hsz)
  go_wp2_with fail
  go_at_call 55
  refine HP.out.mono ?_
  rintro e w2 ⟨rfl, h3, h4⟩
  have H1 := Lib.hid h3
  have H2 := Lib.hid (HK0.out.trans h4)
  clear h3 h4
  go_wp2
  go_end0
  exact ⟨rfl, H1.out, H2.out⟩
set_option maxHeartbeats 8000000 in
theorem wc_or (q : Nat) (ws : List Tx) (w : World) (h : WrAt q ws w) (hT : TabQ q w) (f : Nat) (IH : ∀ (c : Cd) (m : Value) (ws : List Tx) (w : World), condB f c = true → KsAt (fun b => b < q) w m c.kids → WrAt q ws w → TabQ q w → szW ws + szW (condW f c) ≤ 65537 → Calls Tryz.prog 32 #[.pointer (some ⟨q, 0, none⟩), cdv c m] w fun e w' => DN q (ws ++ condW f c) w e w') (c d : Cd) (hc : condB f c = true) (hd : condB f d = true) (a : Option Addr) (k : Nat) (hk1 : 2 ≤ k) (hk2 : k ≤ 9223372036854775807) (hK : KsAt (fun b => b < q) w (.slice a 2 k) [c, d]) (hsz : szW ws + szW (tO :: (condW f c ++ (tOr :: (condW f d ++ [tC])))) ≤ 65537) :
    Calls Tryz.prog 32 #[.pointer (some ⟨q, 0, none⟩), .agg #[.int .i64 8, .string (mk []), .string (mk []), .int .i64 0, .slice a 2 k]] w fun e w' => DN q (ws ++ (tO :: (condW f c ++ (tOr :: (condW f d ++ [tC]))))) w e w' := by
  have hq := h.lt
  have hb0 := below_alloc w (.cells #[.int .i64 8, .string (mk []), .string (mk []), .int .i64 0, .slice a 2 k] 32)
  have HW0 := Lib.hid (h.grw hb0)
  have HK0 := Lib.hid (KeptW.of hb0 hq)
  have HT0 := Lib.hid (hT.kept (hb0.mono (Nat.le_of_lt hq)))
  have HB0 := Lib.hid (heap_alloc_new w (.cells #[.int .i64 8, .string (mk []), .string (mk []), .int .i64 0, .slice a 2 k] 32))
  obtain ⟨x0, x1, x2, x3, x4⟩ := bfive HB0.out
  have hp0 : q < w.heap.size := hq
  have HK := Lib.hid (hK.lowq (hb0.mono (Nat.le_of_lt hq)))
  clear hK
  clear h hb0 hT
  go_enter Tryz.func32, Tryz.ntmps32
  go_upto_region 1 with fail
  generalize w.alloc (.cells #[.int .i64 8, .string (mk []), .string (mk []), .int .i64 0, .slice a 2 k] 32) = W0 at *
  generalize w.heap.size = p0 at *
  have HP := Lib.hid (wc_pair q ws W0 HW0.out HT0.out f IH c d hc hd a k hk1 hk2 HK.out tOr hsz)
  go_wp2_with fail
  go_at_call 55
  refine HP.out.mono ?_
  rintro e w2 ⟨rfl, h3, h4⟩
  have H1 := Lib.hid h3
  have H2 := Lib.hid (HK0.out.trans h4)
  clear h3 h4
  go_wp2
  go_end0
  exact ⟨rfl, H1.out, H2.out⟩
/-- A condition's words, at whatever depth. -/
theorem wc_any (q : Nat) : ∀ (f : Nat) (c : Cd) (m : Value) (ws : List Tx) (w : World), condB f c = true → KsAt (fun b => b < q) w m c.kids → WrAt q ws w → TabQ q w → szW ws + szW (condW f c) ≤ 65537 →
    Calls Tryz.prog 32 #[.pointer (some ⟨q, 0, none⟩), cdv c m] w fun e w' => DN q (ws ++ condW f c) w e w'
  | 0, c, m, ws, w, h, _, _, _, _ => by cases h
  | f + 1, .mk k lo hi n ks, m, ws, w, h, hK, hW, hT, hsz => by
    have IH := fun c m ws w => wc_any q f c m ws w
    simp only [condB, Bool.and_eq_true, decide_eq_true_eq, List.all_eq_true] at h
    obtain ⟨hk, hks, hl⟩ := h
    obtain ⟨h0, h8, hlo, hhi, hn⟩ := leaf_facts hl
    obtain ⟨ka, kc, rfl, hk1, hk2⟩ := KsAt.form hK
    rcases k_cases h0 h8 with rfl | rfl | rfl | rfl | rfl | rfl | rfl | rfl | rfl
    · obtain rfl : lo = [] := by simpa [loB] using hlo
      obtain rfl : hi = [] := by simpa [hiB] using hhi
      obtain rfl : n = 0 := by simpa [nB] using hn
      exact wc_all q ws w hW hT _ hsz
    · obtain rfl : n = 0 := by simpa [nB] using hn
      exact wc_proc q ws w hW hT _ lo hi hsz
    · obtain rfl : hi = [] := by simpa [hiB] using hhi
      obtain rfl : n = 0 := by simpa [nB] using hn
      exact wc_mod q ws w hW hT _ lo hsz
    · obtain rfl : lo = [] := by simpa [loB] using hlo
      obtain rfl : hi = [] := by simpa [hiB] using hhi
      have hn : 0 ≤ n ∧ n ≤ 9999 := by simpa [nB] using hn
      exact wc_units q ws w hW hT _ n (by omega) (by omega) hsz
    · obtain rfl : lo = [] := by simpa [loB] using hlo
      obtain rfl : hi = [] := by simpa [hiB] using hhi
      have hn : goodB n = true := by simpa [nB] using hn
      simp only [goodB, Bool.and_eq_true, decide_eq_true_eq] at hn
      exact wc_billed q ws w hW hT _ n (by omega) (by omega) hsz
    · obtain rfl : lo = [] := by simpa [loB] using hlo
      obtain rfl : hi = [] := by simpa [hiB] using hhi
      obtain rfl : n = 0 := by simpa [nB] using hn
      exact wc_out q ws w hW hT _ hsz
    · obtain ⟨c, rfl⟩ := list1 (show ks.length = 1 from hk)
      obtain rfl : lo = [] := by simpa [loB] using hlo
      obtain rfl : hi = [] := by simpa [hiB] using hhi
      obtain rfl : n = 0 := by simpa [nB] using hn
      exact wc_not q ws w hW hT f IH c (hks c (by simp)) ka kc hk1 hk2 hK hsz
    all_goals
      obtain ⟨c, d, rfl⟩ := list2 (show ks.length = 2 from hk)
      obtain rfl : lo = [] := by simpa [loB] using hlo
      obtain rfl : hi = [] := by simpa [hiB] using hhi
      obtain rfl : n = 0 := by simpa [nB] using hn
    · exact wc_and q ws w hW hT f IH c d (hks c (by simp)) (hks d (by simp)) ka kc hk1 hk2 hK hsz
    · exact wc_or q ws w hW hT f IH c d (hks c (by simp)) (hks d (by simp)) ka kc hk1 hk2 hK hsz
end Go.Proofs.YtoibhgoaibjopaaGreatDoor.Pl
end
