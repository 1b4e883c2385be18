/-
  Texts put together (merge.py): WJoin, PPrA, PWh.
-/
import Derived.BigQuiet
import Derived.Deep.DeepCutAuto
import Derived.Defers
import Derived.Recover
import Derived.Test.YtfkhehkfeibdpaaGreatDoorMc36
import Derived.Test.YtfkhehkfeibdpaaGreatDoorShelf
import Derived.Test.YtfkhehkfeibdpaaGreatDoorMc35
import Derived.Test.YtfkhehkfeibdpaaGreatDoorMc22
/-
  What words.Join, and the reference's Join and Same, answer, as contracts; the example of the statements holds.
-/
section
set_option linter.unusedSimpArgs false
set_option linter.unusedVariables false
namespace Go.Proofs.YtfkhehkfeibdpaaGreatDoor.Wo
open Go.RowKit

theorem sum_many : ∀ xs : List Tx, xs.length ≤ (xs.map fun x => 1 + x.length).sum
  | [] => by simp
  | x :: r => by have := sum_many r; simp only [List.length_cons, List.map_cons, List.sum_cons]; omega
theorem join_many (c : UInt8) (xs : List Tx) : xs.length ≤ (joinC c xs).length + 1 := by
  by_cases h : xs = []
  · subst h; simp
  · rw [join_len c xs h]; exact sum_many xs
theorem strings_join (v : Value) (xs : List Tx) (c : UInt8) (w : World) (h : TxAt All w v xs) (hl : (joinC c xs).length ≤ 1000000) :
    Calls Tryz.prog 41 #[v, .string (mk [c])] w fun e w' => e = .returned (.string (mk (joinC c xs))) ∧ Below w.heap.size w w' := by
  obtain ⟨a, cap, rfl, h1, h2, h3⟩ := h
  rcases h3 with rfl | ⟨b, o, rfl, _, hb, hc⟩
  · refine (Tryz.strings_Join_none a cap _ w).mono ?_
    rintro e w' ⟨rfl, rfl⟩
    exact ⟨rfl, Below.refl _ _⟩
  · have e1 : (xs.map mk).map (·.data.toList) = xs := by
      rw [List.map_map]
      conv => rhs; rw [← List.map_id xs]
      exact List.map_congr_left fun x _ => mk_list x
    have e2 : (xs.map mk).length = xs.length := List.length_map ..
    have e3 : (mk [c]).data.toList = [c] := mk_list _
    have := Tryz.strings_Join b o cap (xs.map mk) (mk [c]) w (fun j x hx => by
      rw [List.getElem?_map, Option.map_eq_some_iff] at hx
      obtain ⟨y, hy, rfl⟩ := hx
      obtain ⟨u, hu, rfl⟩ := hc j y hy
      exact hu) hb (by rw [e2]; have := join_many c xs; omega) (by rw [e2]; exact h1) (by rw [e1, e3]; exact Nat.le_trans hl (by omega))
    rw [e1, e2, e3] at this
    exact this
set_option maxHeartbeats 1000000 in
theorem join_any (v : Value) (xs : List Tx) (w : World) (h : TxAt All w v xs) (hl : (joinC 32 xs).length ≤ 1000000) :
    Calls Tryz.prog 23 #[v] w fun e w' => e = .returned (.string (mk (joinC 32 xs))) ∧ Below w.heap.size w w' := by
  have HJ : Hid (Calls Tryz.prog 41 #[v, .string ⟨#[32]⟩] w _) := strings_join v xs 32 w h hl
  obtain ⟨a, c, rfl, -, -, -⟩ := h
  go_enter Tryz.func23, Tryz.ntmps23
  go_wp2_with (go_at_call 41; refine HJ.out.mono ?_; rintro e w1 ⟨rfl, hb⟩; have HB := Lib.hid hb; clear hb)
  go_ret
  exact ⟨rfl, HB.out⟩

theorem mk_cat (a b : Tx) : mk a ++ mk b = mk (a ++ b) := by
  apply ByteArray.ext
  simp [mk]
theorem join_take (c : UInt8) (xs : List Tx) (k : Nat) (x : Tx) (hx : xs[k]? = some x) : joinC c (xs.take (k + 1)) = (if k = 0 then [] else joinC c (xs.take k) ++ [c]) ++ x := by
  cases xs with
  | nil => simp at hx
  | cons y r =>
    cases k with
    | zero =>
      simp at hx
      subst hx
      simp [joinC_one]
    | succ k =>
      rw [List.getElem?_cons_succ] at hx
      unfold joinC
      rw [List.take_succ_cons, Lib.join_cons, List.take_succ_cons, Lib.join_cons, Lib.joinTail_take_succ [c] r k x hx, if_neg (by omega)]
      simp
theorem tx_get {K : Nat → Prop} {w : World} {a : Option Addr} {n c : Nat} {xs : List Tx} (h : TxAt K w (.slice a n c) xs) (k : Nat) (hk : k < xs.length) :
    ∃ b o, a = some ⟨b, o, none⟩ ∧ xs[k]? = some xs[k] ∧ w.cell? ⟨b, o + k, none⟩ = some (.string (mk xs[k])) := by
  obtain ⟨a', c', he, h1, h2, h3⟩ := h
  have ha : a = a' := by injection he
  subst ha
  rcases h3 with h | ⟨b, o, ha, _, _, hc⟩
  · subst h; simp at hk
  · have hx := List.getElem?_eq_getElem hk
    obtain ⟨m, q1, rfl⟩ := hc k _ hx
    exact ⟨b, o, ha, hx, q1⟩
theorem join_len_take (c : UInt8) (xs : List Tx) (k : Nat) : (joinC c (xs.take k)).length ≤ (joinC c xs).length := by
  by_cases h : xs.take k = []
  · rw [h]; exact Nat.zero_le _
  · have h' : xs ≠ [] := fun e => h (by rw [e]; simp)
    have e1 := join_len c _ h
    have e2 := join_len c _ h'
    have e3 : ((xs.take k).map fun x => 1 + x.length).sum ≤ (xs.map fun x => 1 + x.length).sum := by
      conv => rhs; rw [← List.take_append_drop k xs]
      rw [List.map_append, List.sum_append]
      omega
    omega
theorem infoS : ∃ i, Tryz.prog.info? 9 = some i ∧ i.zero = some (.string ByteArray.empty) ∧ i.size = 1 ∧ i.bytes = 16 := by
  have hi : (Tryz.prog.info? 9).map (fun i => (i.zero, i.size, i.bytes)) = some (some (.string ByteArray.empty), 1, 16) := by kernel_rfl
  cases hq : Tryz.prog.info? 9 with
  | none => rw [hq] at hi; cases hi
  | some i =>
    rw [hq] at hi
    simp only [Option.map_some, Option.some.injEq, Prod.mk.injEq] at hi
    exact ⟨i, rfl, hi⟩
theorem lit1 : spE [114, 117, 108, 101, 32, 53, 32, 40, 97, 108, 108, 41, 10, 49, 50, 46, 53, 48] = 0 ∧ spA [114, 117, 108, 101, 32, 53, 32, 40, 97, 108, 108, 41, 10, 49, 50, 46, 53, 48] = 0 ∧ spV [114, 117, 108, 101, 32, 53, 32, 40, 97, 108, 108, 41, 10, 49, 50, 46, 53, 48] = [([114, 117, 108, 101], 0), ([53], 5), ([40], 7), ([97, 108, 108], 8), ([41], 11), ([49, 50, 46, 53, 48], 13)] := by decide
theorem lit2 : spE [97, 44, 98] = 4 ∧ spA [97, 44, 98] = 1 ∧ spV [97, 44, 98] = [] := by decide
theorem two_at (w : World) : TxAt All (w.alloc (.cells #[.string ⟨#[97]⟩, .string ⟨#[98]⟩] 9)) (.slice (some ⟨w.heap.size, 0, none⟩) 2 2) [[97], [98]] := by
  refine ⟨_, 2, rfl, by decide, by simp [maxLen], Or.inr ⟨w.heap.size, 0, rfl, trivial, by simp, fun j x hj => ?_⟩⟩
  have h := heap_alloc_new w (.cells #[.string ⟨#[97]⟩, .string ⟨#[98]⟩] 9)
  match j, hj with
  | 0, hj => simp at hj; subst hj; exact ⟨_, by rw [cell_of_row _ _ _ _ _ _ h]; rfl, rfl⟩
  | 1, hj => simp at hj; subst hj; exact ⟨_, by rw [cell_of_row _ _ _ _ _ _ h]; rfl, rfl⟩
end Go.Proofs.YtfkhehkfeibdpaaGreatDoor.Wo
end

/-
  What plan.Print answers, as a contract: where the text is not too long.
-/
section
set_option linter.unusedSimpArgs false
set_option linter.unusedVariables false
set_option maxRecDepth 100000
namespace Go.Proofs.YtfkhehkfeibdpaaGreatDoor.Pl
open Go.RowKit
open Wo (Wd WdsAt box_cell box_two keepB heap_far)

theorem tab_lt {w : World} (h : Nu.Tab w) : ∀ g, Tryz.prog.globalNamed "internal/strconv.uint64pow10" = some g → g < w.heap.size := by
  intro g hg
  unfold Nu.Tab Lib.TabIs World.var? at h
  simp only [hg, Option.bind_some] at h
  rcases Nat.lt_or_ge g w.heap.size with hl | hl
  · exact hl
  · rw [Array.getElem?_eq_none hl] at h
    simp at h
theorem pr_idle (p q : Addr) (w : World) :
    CallsD Tryz.prog 20 #[.pointer (some p), .pointer (some q)] .returning w fun e u' w' => e = .returned (.tuple #[]) ∧ u' = .returning ∧ w' = w := by
  refine callsD_of_wpS Tryz.func20 rfl fun c₀ cs hu => ?_
  apply wpS_seq
  apply wpS_region
  simp [wpOpsS, go_sem, recoverD, hu, Tryz.ntmps20, Exit.thenS]
  have et : (#[Value.pointer (some p), Value.pointer (some q)] ++ ((Array.replicate 6 undef).setIfInBounds 1 Value.nilIface).setIfInBounds 0 Value.nilIface) = #[Value.pointer (some p), Value.pointer (some q), Value.nilIface, Value.nilIface, undef, undef, undef, undef] := rfl
  rw [et]
  refine wpS_of_wp ?_
  have hnil : ∀ w : World, (binOp BinOp.neq 20 .nilIface .nilIface).run Tryz.prog w = .ok (.bool false) w := fun _ => by kernel_rfl
  go_wp2
  cases c₀
  simp_all [bodyPostS, results, Tryz.results20]
set_option maxHeartbeats 16000000 in
theorem print_bad (p : Pn) (m : Value) (w : World) (h : RusAt All w m p.rules) (hp : ¬ planB p = true) :
    Calls Tryz.prog 11 #[pnv p m] w fun e w' => e = .returned (.tuple #[.string (mk []), .int .i64 15]) ∧ Below w.heap.size w w' := by
  have he : checkE p = 15 := by unfold checkE; rw [if_neg hp]
  have HCK := Lib.hid fun W (hW : Below w.heap.size w W) => check_any p m W (h.grw hW)
  rw [he] at HCK
  have hb0 := below_trans (below_trans (below_alloc w (.cells #[.int .i64 p.mode, .int .i64 p.indDed, .int .i64 p.famDed, .int .i64 p.indOop, .int .i64 p.famOop, m] 24)) (below_alloc _ (.cells #[.string ⟨#[]⟩] 9))) (below_alloc _ (.cells #[.int .i64 0] 27))
  have HB0 := Lib.hid hb0
  have h1 := heap_alloc_new (w.alloc (.cells #[.int .i64 p.mode, .int .i64 p.indDed, .int .i64 p.famDed, .int .i64 p.indOop, .int .i64 p.famOop, m] 24)) (.cells #[.string ⟨#[]⟩] 9)
  have h2 := heap_alloc_new ((w.alloc (.cells #[.int .i64 p.mode, .int .i64 p.indDed, .int .i64 p.famDed, .int .i64 p.indOop, .int .i64 p.famOop, m] 24)).alloc (.cells #[.string ⟨#[]⟩] 9)) (.cells #[.int .i64 0] 27)
  rw [show (w.alloc (.cells #[.int .i64 p.mode, .int .i64 p.indDed, .int .i64 p.famDed, .int .i64 p.indOop, .int .i64 p.famOop, m] 24)).heap.size = w.heap.size + 1 by simp] at h1
  rw [show ((w.alloc (.cells #[.int .i64 p.mode, .int .i64 p.indDed, .int .i64 p.famDed, .int .i64 p.indOop, .int .i64 p.famOop, m] 24)).alloc (.cells #[.string ⟨#[]⟩] 9)).heap.size = w.heap.size + 2 by simp] at h2
  have HS := Lib.hid (keepB h1 (below_alloc _ (.cells #[.int .i64 0] 27)))
  have HE := Lib.hid h2
  clear h1 h2 he hb0 h
  go_enter_defers Tryz.func11, Tryz.ntmps11
  go_wp2_with fail
  go_at_call 9
  refine (HCK.out _ HB0.out).mono ?_
  rintro e w1 ⟨rfl, hb1⟩
  obtain ⟨s0, s1⟩ := box_cell (keepB HS.out hb1)
  obtain ⟨e0, e1⟩ := box_cell (keepB HE.out hb1)
  have HB1 := Lib.hid (below_trans HB0.out hb1)
  clear hb1 HS HE HB0 HCK
  go_wp2
  refine ⟨.tuple #[.string (mk []), .int .i64 15], by simp [results, Tryz.results11, go_sem, s0, e0]; rfl, rfl, ?_⟩
  exact (HB1.out.setCell (p := ⟨w.heap.size + 1, 0, none⟩) (by show w.heap.size ≤ w.heap.size + 1; omega) _).setCell (p := ⟨w.heap.size + 2, 0, none⟩) (by show w.heap.size ≤ w.heap.size + 2; omega) _
end Go.Proofs.YtfkhehkfeibdpaaGreatDoor.Pl
end

/-
  What the writer's head does, as a contract.
-/
section
set_option linter.unusedSimpArgs false
set_option linter.unusedVariables false
set_option maxRecDepth 100000
namespace Go.Proofs.YtfkhehkfeibdpaaGreatDoor.Pl
open Go.RowKit
open Wo (Wd WdsAt box_cell box_two keepB heap_far)

set_option maxHeartbeats 16000000 in
theorem wr_head (q : Nat) (ws : List Tx) (p : Pn) (m : Value) (w : World) (h : WrAt q ws w) (hT : TabQ q w) (hl : limB p = true) (hm : p.mode = 0 ∨ p.mode = 1) (hsz : szW ws + szW (headW p) ≤ 65537) :
    Calls Tryz.prog 21 #[.pointer (some ⟨q, 0, none⟩), pnv p m] w fun e w' => DN q (ws ++ headW p) w e w' := by
  obtain ⟨l1, l3, l2, l4⟩ := lim_good hl
  have hs : szW (headW p) = szW [tPlan, if p.mode = 1 then tAgg else tEmb] + (szW [tMem, Nu.moneyL p.indDed, Nu.moneyL p.indOop] + szW [tFam, Nu.moneyL p.famDed, Nu.moneyL p.famOop]) := by
    unfold headW
    simp only [sz_cons, sz_nil]; omega
  have hw : headW p = [tPlan, if p.mode = 1 then tAgg else tEmb] ++ ([tMem, Nu.moneyL p.indDed, Nu.moneyL p.indOop] ++ [tFam, Nu.moneyL p.famDed, Nu.moneyL p.famOop]) := rfl
  rw [hs] at hsz
  rw [hw]
  clear hs hw hl
  obtain ⟨md, x1, x2, x3, x4, rs⟩ := p
  simp only at *
  simp only [goodB, Bool.and_eq_true, decide_eq_true_eq] at l1 l2 l3 l4
  have HM1 : Hid (∀ W, Nu.Tab W → Calls Tryz.prog 37 #[.int .i64 x1] W fun e w' => e = .returned (.string (mk (Nu.moneyL x1))) ∧ Below W.heap.size W w') := fun W hW => Nu.money_any x1 (by omega) (by omega) W hW
  have HM2 : Hid (∀ W, Nu.Tab W → Calls Tryz.prog 37 #[.int .i64 x2] W fun e w' => e = .returned (.string (mk (Nu.moneyL x2))) ∧ Below W.heap.size W w') := fun W hW => Nu.money_any x2 (by omega) (by omega) W hW
  have HM3 : Hid (∀ W, Nu.Tab W → Calls Tryz.prog 37 #[.int .i64 x3] W fun e w' => e = .returned (.string (mk (Nu.moneyL x3))) ∧ Below W.heap.size W w') := fun W hW => Nu.money_any x3 (by omega) (by omega) W hW
  have HM4 : Hid (∀ W, Nu.Tab W → Calls Tryz.prog 37 #[.int .i64 x4] W fun e w' => e = .returned (.string (mk (Nu.moneyL x4))) ∧ Below W.heap.size W w') := fun W hW => Nu.money_any x4 (by omega) (by omega) W hW
  generalize Nu.moneyL x1 = t1 at *
  generalize Nu.moneyL x2 = t2 at *
  generalize Nu.moneyL x3 = t3 at *
  generalize Nu.moneyL x4 = t4 at *
  have hq := h.lt
  have hb0 := below_alloc w (.cells #[.int .i64 md, .int .i64 x1, .int .i64 x2, .int .i64 x3, .int .i64 x4, m] 24)
  have HW0 := Lib.hid (h.grw hb0)
  have HK0 := Lib.hid (KeptW.of hb0 hq)
  have HT0 := Lib.hid (hT.kept (hb0.mono (Nat.le_of_lt hq)))
  have HB0 := Lib.hid (heap_alloc_new w (.cells #[.int .i64 md, .int .i64 x1, .int .i64 x2, .int .i64 x3, .int .i64 x4, m] 24))
  obtain ⟨x0', x1', x2', x3', x4', x5'⟩ := bsix HB0.out
  clear h hb0 hT l1 l2 l3 l4
  rcases hm with hm | hm
  · rw [if_neg (show ¬ md = 1 by omega)] at hsz ⊢
    have e1 : (md == 1) = false := by rw [hm]; rfl
    clear hm
    go_enter Tryz.func21, Tryz.ntmps21
    go_upto_region 1 with fail
    generalize w.alloc (.cells #[.int .i64 md, .int .i64 x1, .int .i64 x2, .int .i64 x3, .int .i64 x4, m] 24) = W0 at *
    generalize w.heap.size = p0 at *
    go_wp2_with fail
    go_at_call 36
    refine (add2 q ws tPlan tEmb W0 HW0.out (by omega)).mono ?_
    rintro e W1 ⟨rfl, h1, h2⟩
    have HW1 := Lib.hid h1
    have HK1 := Lib.hid (HK0.out.trans h2)
    have HT1 := Lib.hid (HT0.out.kept h2.1)
    have HB1 := Lib.hid (box_kept HB0.out h2 hq (by decide))
    clear h1 h2 HW0 HK0 HT0 HB0 x0' x1' x2' x3' x4' x5'
    go_upto_region 5 with fail
    have HBd1 := Lib.hid (Below.drew (Below.refl W1.heap.size W1))
    have HMa1 := Lib.hid fun W' (hW : Below W1.heap.size W1 W') => HM1.out W' (HT1.out.kept (hW.mono (Nat.le_of_lt HW1.out.lt))).1
    have HMb1 := Lib.hid fun W' (hW : Below W1.heap.size W1 W') => HM3.out W' (HT1.out.kept (hW.mono (Nat.le_of_lt HW1.out.lt))).1
    obtain ⟨y0, y1, y2, y3, y4, y5⟩ := bsix HB1.out
    go_cut [20] (fun s wx => s = .tuple #[] ∧ Hid (WrAt q ((ws ++ [tPlan, tEmb]) ++ [tMem, t1, t3]) wx) ∧ Hid (KeptW q W1 wx))
    case first =>
      (go_region_with (first | (go_at_call_of 37 (Value.int IntKind.i64 x1); refine (HMa1.out _ HBd1.out).mono ?_; rintro x w1 ⟨rfl, hb1⟩; have HBa := Lib.hid (below_trans HBd1.out hb1); clear hb1; obtain ⟨z0, z1, z2, z3, z4, z5⟩ := bsix (keepB HB1.out HBa.out)) | (go_at_call_of 37 (Value.int IntKind.i64 x3); refine (HMb1.out _ HBa.out).mono ?_; rintro x w2 ⟨rfl, hb2⟩; have HBb := Lib.hid (below_trans HBa.out hb2); clear hb2) | (go_at_call 36; refine (add3 q _ tMem t1 t3 w2 (HW1.out.grw HBb.out) (by simp only [sz_app]; omega)).mono ?_; rintro x w3 ⟨rfl, h1, h2⟩; have H1 := Lib.hid h1; have H2 := Lib.hid ((KeptW.of HBb.out HW1.out.lt).trans h2); clear h1 h2)))
      all_goals
        go_wp2_with fail
        go_meet
        exact ⟨rfl, H1.out, H2.out⟩
    case rest =>
      obtain ⟨-, HW2, h2⟩ := hcut
      have HK2 := Lib.hid (HK1.out.trans h2.out)
      have HT2 := Lib.hid (HT1.out.kept h2.out.1)
      have HB2 := Lib.hid (box_kept HB1.out h2.out hq (by decide))
      clear h2 HW1 HK1 HT1 HB1 HBd1 HMa1 HMb1 y0 y1 y2 y3 y4 y5
      generalize hW2 : wc = W2 at *
      clear hW2
      have HBd2 := Lib.hid (Below.drew (Below.refl W2.heap.size W2))
      have HMa2 := Lib.hid fun W' (hW : Below W2.heap.size W2 W') => HM2.out W' (HT2.out.kept (hW.mono (Nat.le_of_lt HW2.out.lt))).1
      have HMb2 := Lib.hid fun W' (hW : Below W2.heap.size W2 W') => HM4.out W' (HT2.out.kept (hW.mono (Nat.le_of_lt HW2.out.lt))).1
      obtain ⟨y0, y1, y2, y3, y4, y5⟩ := bsix HB2.out
      go_upto_region 6 with fail
      (go_region_with (first | (go_at_call_of 37 (Value.int IntKind.i64 x2); refine (HMa2.out _ HBd2.out).mono ?_; rintro x w1 ⟨rfl, hb1⟩; have HBa := Lib.hid (below_trans HBd2.out hb1); clear hb1; obtain ⟨z0, z1, z2, z3, z4, z5⟩ := bsix (keepB HB2.out HBa.out)) | (go_at_call_of 37 (Value.int IntKind.i64 x4); refine (HMb2.out _ HBa.out).mono ?_; rintro x w2 ⟨rfl, hb2⟩; have HBb := Lib.hid (below_trans HBa.out hb2); clear hb2) | (go_at_call 36; refine (add3 q _ tFam t2 t4 w2 (HW2.out.grw HBb.out) (by simp only [sz_app]; omega)).mono ?_; rintro x w3 ⟨rfl, h1, h2⟩; have H1 := Lib.hid h1; have H2 := Lib.hid ((KeptW.of HBb.out HW2.out.lt).trans h2); clear h1 h2)))
      all_goals
        go_wp2
        go_end0
        exact ⟨rfl, by have := H1.out; simpa [List.append_assoc] using this, HK2.out.trans H2.out⟩
  · rw [if_pos hm] at hsz ⊢
    have e1 : (md == 1) = true := by rw [hm]; rfl
    clear hm
    go_enter Tryz.func21, Tryz.ntmps21
    go_upto_region 1 with fail
    generalize w.alloc (.cells #[.int .i64 md, .int .i64 x1, .int .i64 x2, .int .i64 x3, .int .i64 x4, m] 24) = W0 at *
    generalize w.heap.size = p0 at *
    go_wp2_with fail
    go_at_call 36
    refine (add2 q ws tPlan tAgg W0 HW0.out (by omega)).mono ?_
    rintro e W1 ⟨rfl, h1, h2⟩
    have HW1 := Lib.hid h1
    have HK1 := Lib.hid (HK0.out.trans h2)
    have HT1 := Lib.hid (HT0.out.kept h2.1)
    have HB1 := Lib.hid (box_kept HB0.out h2 hq (by decide))
    clear h1 h2 HW0 HK0 HT0 HB0 x0' x1' x2' x3' x4' x5'
    go_upto_region 5 with fail
    have HBd1 := Lib.hid (Below.drew (Below.refl W1.heap.size W1))
    have HMa1 := Lib.hid fun W' (hW : Below W1.heap.size W1 W') => HM1.out W' (HT1.out.kept (hW.mono (Nat.le_of_lt HW1.out.lt))).1
    have HMb1 := Lib.hid fun W' (hW : Below W1.heap.size W1 W') => HM3.out W' (HT1.out.kept (hW.mono (Nat.le_of_lt HW1.out.lt))).1
    obtain ⟨y0, y1, y2, y3, y4, y5⟩ := bsix HB1.out
    go_cut [20] (fun s wx => s = .tuple #[] ∧ Hid (WrAt q ((ws ++ [tPlan, tAgg]) ++ [tMem, t1, t3]) wx) ∧ Hid (KeptW q W1 wx))
    case first =>
      (go_region_with (first | (go_at_call_of 37 (Value.int IntKind.i64 x1); refine (HMa1.out _ HBd1.out).mono ?_; rintro x w1 ⟨rfl, hb1⟩; have HBa := Lib.hid (below_trans HBd1.out hb1); clear hb1; obtain ⟨z0, z1, z2, z3, z4, z5⟩ := bsix (keepB HB1.out HBa.out)) | (go_at_call_of 37 (Value.int IntKind.i64 x3); refine (HMb1.out _ HBa.out).mono ?_; rintro x w2 ⟨rfl, hb2⟩; have HBb := Lib.hid (below_trans HBa.out hb2); clear hb2) | (go_at_call 36; refine (add3 q _ tMem t1 t3 w2 (HW1.out.grw HBb.out) (by simp only [sz_app]; omega)).mono ?_; rintro x w3 ⟨rfl, h1, h2⟩; have H1 := Lib.hid h1; have H2 := Lib.hid ((KeptW.of HBb.out HW1.out.lt).trans h2); clear h1 h2)))
      all_goals
        go_wp2_with fail
        go_meet
        exact ⟨rfl, H1.out, H2.out⟩
    case rest =>
      obtain ⟨-, HW2, h2⟩ := hcut
      have HK2 := Lib.hid (HK1.out.trans h2.out)
      have HT2 := Lib.hid (HT1.out.kept h2.out.1)
      have HB2 := Lib.hid (box_kept HB1.out h2.out hq (by decide))
      clear h2 HW1 HK1 HT1 HB1 HBd1 HMa1 HMb1 y0 y1 y2 y3 y4 y5
      generalize hW2 : wc = W2 at *
      clear hW2
      have HBd2 := Lib.hid (Below.drew (Below.refl W2.heap.size W2))
      have HMa2 := Lib.hid fun W' (hW : Below W2.heap.size W2 W') => HM2.out W' (HT2.out.kept (hW.mono (Nat.le_of_lt HW2.out.lt))).1
      have HMb2 := Lib.hid fun W' (hW : Below W2.heap.size W2 W') => HM4.out W' (HT2.out.kept (hW.mono (Nat.le_of_lt HW2.out.lt))).1
      obtain ⟨y0, y1, y2, y3, y4, y5⟩ := bsix HB2.out
      go_upto_region 6 with fail
      (go_region_with (first | (go_at_call_of 37 (Value.int IntKind.i64 x2); refine (HMa2.out _ HBd2.out).mono ?_; rintro x w1 ⟨rfl, hb1⟩; have HBa := Lib.hid (below_trans HBd2.out hb1); clear hb1; obtain ⟨z0, z1, z2, z3, z4, z5⟩ := bsix (keepB HB2.out HBa.out)) | (go_at_call_of 37 (Value.int IntKind.i64 x4); refine (HMb2.out _ HBa.out).mono ?_; rintro x w2 ⟨rfl, hb2⟩; have HBb := Lib.hid (below_trans HBa.out hb2); clear hb2) | (go_at_call 36; refine (add3 q _ tFam t2 t4 w2 (HW2.out.grw HBb.out) (by simp only [sz_app]; omega)).mono ?_; rintro x w3 ⟨rfl, h1, h2⟩; have H1 := Lib.hid h1; have H2 := Lib.hid ((KeptW.of HBb.out HW2.out.lt).trans h2); clear h1 h2)))
      all_goals
        go_wp2
        go_end0
        exact ⟨rfl, by have := H1.out; simpa [List.append_assoc] using this, HK2.out.trans H2.out⟩
end Go.Proofs.YtfkhehkfeibdpaaGreatDoor.Pl
end
