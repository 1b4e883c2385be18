/-
  Texts put together (merge.py): VAdj.
-/
import Derived.Deep.CutBlock
import Derived.Test.YtpfpjbeofogbgaaMm8
set_option linter.unusedSimpArgs false
set_option linter.unusedVariables false
section
set_option maxRecDepth 100000
namespace Go.Proofs.Ytpfpjbeofogbgaa.Sv
open Go.RowKit
open Sh (Ot)
open Bk (keepB below_alloc below_trans alloc_new)
def whyV (o : Ot) : Int := if o.deny = 0 then 45 else o.deny
theorem five_eq (o : Ot) : five o = [⟨gCO, whyV o, o.wr⟩, ⟨gPR, 1, o.de⟩, ⟨gPR, 2, o.cn⟩, ⟨gPR, 3, o.cp⟩, ⟨gOA, 23, o.pr⟩] := rfl
def sm (l : List Ca) : List Ca := l.filter fun c => decide (c.ct ≠ 0)
theorem sm_in (l : List Ca) (c : Ca) (h : (c.ct != 0) = true) : sm (l ++ [c]) = sm l ++ [c] := by
 have : c.ct ≠ 0 := by simpa using h
 unfold sm; rw [List.filter_append]; simp [this]
theorem sm_out (l : List Ca) (c : Ca) (h : (c.ct != 0) = false) : sm (l ++ [c]) = sm l := by
 have : c.ct = 0 := by simpa using h
 unfold sm; rw [List.filter_append]; simp [this]
theorem sm_len (l : List Ca) : (sm l).length ≤ l.length := List.length_filter_le ..
theorem grow_ok {B : Nat} {w w' : World} {v : Value} {l : List Ca} (ho : OwnK B w v l) (hg : w.grownBy w' v.ownBlock) (hB : B ≤ w.heap.size) {z : World} (hz : Below B z w) : Below B z w' := hz.trans (growK_low ho hg hB)
theorem und5 : Try.prog.underlying 102 = some (.array 5 Tk) := by kernel_rfl
theorem info_size {w : World} : (sizeOf Tk).run Try.prog w = .ok 3 w := by
 obtain ⟨i, h1, -, h3, -⟩ := infok
 simp [sizeOf, typeInfo, h1, h3]
theorem part_k (w : World) (cs : Array Value) (off : Nat) (a b c : Value) (h : cs.extract off (off + 3) = #[a, b, c]) : (part Tk cs off).run Try.prog w = .ok (.agg #[a, b, c]) w := by
 obtain ⟨i, h1, h2, h3, h4⟩ := infok
 simp [part, sizeOf, typeInfo, h1, h2, h3, h, go_sem]
theorem idx_0 (a0 a1 a2 a3 a4 a5 a6 a7 a8 a9 a10 a11 a12 a13 a14 : Value) (w : World) : (Instr.index 102 (.agg #[a0, a1, a2, a3, a4, a5, a6, a7, a8, a9, a10, a11, a12, a13, a14]) (.int .i64 0)).run Try.prog w = .ok (.agg #[a0, a1, a2]) w := by
 simp [Instr.index, run_underlying und5, asIntOf, info_size]
 exact part_k w _ _ _ _ _ rfl
theorem idx_1 (a0 a1 a2 a3 a4 a5 a6 a7 a8 a9 a10 a11 a12 a13 a14 : Value) (w : World) : (Instr.index 102 (.agg #[a0, a1, a2, a3, a4, a5, a6, a7, a8, a9, a10, a11, a12, a13, a14]) (.int .i64 1)).run Try.prog w = .ok (.agg #[a3, a4, a5]) w := by
 simp [Instr.index, run_underlying und5, asIntOf, info_size]
 exact part_k w _ _ _ _ _ rfl
theorem idx_2 (a0 a1 a2 a3 a4 a5 a6 a7 a8 a9 a10 a11 a12 a13 a14 : Value) (w : World) : (Instr.index 102 (.agg #[a0, a1, a2, a3, a4, a5, a6, a7, a8, a9, a10, a11, a12, a13, a14]) (.int .i64 2)).run Try.prog w = .ok (.agg #[a6, a7, a8]) w := by
 simp [Instr.index, run_underlying und5, asIntOf, info_size]
 exact part_k w _ _ _ _ _ rfl
theorem idx_3 (a0 a1 a2 a3 a4 a5 a6 a7 a8 a9 a10 a11 a12 a13 a14 : Value) (w : World) : (Instr.index 102 (.agg #[a0, a1, a2, a3, a4, a5, a6, a7, a8, a9, a10, a11, a12, a13, a14]) (.int .i64 3)).run Try.prog w = .ok (.agg #[a9, a10, a11]) w := by
 simp [Instr.index, run_underlying und5, asIntOf, info_size]
 exact part_k w _ _ _ _ _ rfl
theorem idx_4 (a0 a1 a2 a3 a4 a5 a6 a7 a8 a9 a10 a11 a12 a13 a14 : Value) (w : World) : (Instr.index 102 (.agg #[a0, a1, a2, a3, a4, a5, a6, a7, a8, a9, a10, a11, a12, a13, a14]) (.int .i64 4)).run Try.prog w = .ok (.agg #[a12, a13, a14]) w := by
 simp [Instr.index, run_underlying und5, asIntOf, info_size]
 exact part_k w _ _ _ _ _ rfl
set_option maxHeartbeats 8000000 in
theorem adjustments_any (o : Ot) (w : World) :
  Calls Try.prog 61 #[.agg #[.int .i64 o.al, .int .i64 o.de, .int .i64 o.cp, .int .i64 o.cn, .int .i64 o.plan, .int .i64 o.wr, .int .i64 o.pr, .int .i64 o.deny]] w fun e w' => ∃ v', e = .returned v' ∧ OwnK w.heap.size w' v' (casV o) ∧ Below w.heap.size w w' := by
 have HB := Lib.hid (below_alloc w (.cells #[.int .i64 o.al, .int .i64 o.de, .int .i64 o.cp, .int .i64 o.cn, .int .i64 o.plan, .int .i64 o.wr, .int .i64 o.pr, .int .i64 o.deny] 50))
 have HX := Lib.hid (alloc_new w #[.int .i64 o.al, .int .i64 o.de, .int .i64 o.cp, .int .i64 o.cn, .int .i64 o.plan, .int .i64 o.wr, .int .i64 o.pr, .int .i64 o.deny] 50)
 have hcv : casV o = sm (five o) := rfl
 rw [hcv, five_eq]
 have HY : Hid ((o.deny = 0 → whyV o = 45) ∧ (o.deny ≠ 0 → whyV o = o.deny)) := ⟨fun h => if_pos h, fun h => if_neg h⟩
 clear hcv
 generalize whyV o = y at *
 go_enter Try.func61, Try.ntmps61
 go_upto_region 1 with fail
 generalize w.alloc (.cells #[.int .i64 o.al, .int .i64 o.de, .int .i64 o.cp, .int .i64 o.cn, .int .i64 o.plan, .int .i64 o.wr, .int .i64 o.pr, .int .i64 o.deny] 50) = W at *
 generalize hp : w.heap.size = p at *
 have HPW : Hid (p ≤ W.heap.size) := by have := HB.out.size; rw [hp] at this; exact this
 obtain ⟨x0, x1, x2, x3, x4, x5, x6, x7⟩ := Sh.eight HX.out
 by_cases hd : o.deny = 0
 ·have hy := HY.out.1 hd
  have hdb : (o.deny == 0) = true := by simpa using hd
  subst hy
  clear HY hd
  have HB1 : Hid (Below p w (W.alloc (.cells (#[.string { data := #[67, 79] }, .int .i64 (45), .int .i64 o.wr, .string { data := #[80, 82] }, .int .i64 (1), .int .i64 o.de, .string { data := #[80, 82] }, .int .i64 (2), .int .i64 o.cn, .string { data := #[80, 82] }, .int .i64 (3), .int .i64 o.cp, .string { data := #[79, 65] }, .int .i64 (23), .int .i64 o.pr] : Array Value) 102))) := HB.out.trans ((below_alloc W _).mono HPW.out)
  have HP1 : Hid (p ≤ (W.alloc (.cells (#[.string { data := #[67, 79] }, .int .i64 (45), .int .i64 o.wr, .string { data := #[80, 82] }, .int .i64 (1), .int .i64 o.de, .string { data := #[80, 82] }, .int .i64 (2), .int .i64 o.cn, .string { data := #[80, 82] }, .int .i64 (3), .int .i64 o.cp, .string { data := #[79, 65] }, .int .i64 (23), .int .i64 o.pr] : Array Value) 102)).heap.size) := Nat.le_trans HPW.out (below_alloc W _).size
  go_wp2
  generalize (W.alloc (.cells (#[.string { data := #[67, 79] }, .int .i64 (45), .int .i64 o.wr, .string { data := #[80, 82] }, .int .i64 (1), .int .i64 o.de, .string { data := #[80, 82] }, .int .i64 (2), .int .i64 o.cn, .string { data := #[80, 82] }, .int .i64 (3), .int .i64 o.cp, .string { data := #[79, 65] }, .int .i64 (23), .int .i64 o.pr] : Array Value) 102)) = W1 at *
  go_loopg [5, 30] 5 (fun gg t5 t30 wr => ∃ (k : Nat) (z : Int) (u : Option Addr) (n c : Nat), k ≤ 5 ∧ gg = 5 - k ∧ z = (k : Int) ∧ t30 = .int .i64 z ∧ t5 = .slice u n c ∧ Hid (OwnK p wr (.slice u n c) (sm (([⟨gCO, 45, o.wr⟩, ⟨gPR, 1, o.de⟩, ⟨gPR, 2, o.cn⟩, ⟨gPR, 3, o.cp⟩, ⟨gOA, 23, o.pr⟩] : List Ca).take k))) ∧ Hid (Below p w wr) ∧ Hid (p ≤ wr.heap.size))
  case atStart => exact ⟨0, 0, none, 0, 0, by omega, rfl, rfl, rfl, rfl, ownK_nil _ _, HB1.out, HP1.out⟩
  case round =>
   obtain ⟨k, z, u, n, c, hk, hg, hz, rfl, rfl, HO, HBn, HPn⟩ := hrel
   have hkk : k = 0 ∨ k = 1 ∨ k = 2 ∨ k = 3 ∨ k = 4 ∨ k = 5 := by omega
   rcases hkk with rfl | rfl | rfl | rfl | rfl | rfl
   ·obtain rfl : z = 0 := by omega
    clear hz
    have hix := idx_0 (.string { data := #[67, 79] }) (.int .i64 (45)) (.int .i64 o.wr) (.string { data := #[80, 82] }) (.int .i64 (1)) (.int .i64 o.de) (.string { data := #[80, 82] }) (.int .i64 (2)) (.int .i64 o.cn) (.string { data := #[80, 82] }) (.int .i64 (3)) (.int .i64 o.cp) (.string { data := #[79, 65] }) (.int .i64 (23)) (.int .i64 o.pr)
    have HAL : Hid (∀ o1, OwnK p (wr.alloc o1) (.slice u n c) (sm (([⟨gCO, 45, o.wr⟩, ⟨gPR, 1, o.de⟩, ⟨gPR, 2, o.cn⟩, ⟨gPR, 3, o.cp⟩, ⟨gOA, 23, o.pr⟩] : List Ca).take 0)) ∧ Below p w (wr.alloc o1)) := fun o1 => ⟨ownK_far HO.out (below_alloc wr o1), HBn.out.trans ((below_alloc wr o1).mono HPn.out)⟩
    have HPA : Hid (∀ o1, p ≤ (wr.alloc o1).heap.size) := fun o1 => Nat.le_trans HPn.out (below_alloc wr o1).size
    have HAL2 : Hid (∀ o1 o2, OwnK p ((wr.alloc o1).alloc o2) (.slice u n c) (sm (([⟨gCO, 45, o.wr⟩, ⟨gPR, 1, o.de⟩, ⟨gPR, 2, o.cn⟩, ⟨gPR, 3, o.cp⟩, ⟨gOA, 23, o.pr⟩] : List Ca).take 0)) ∧ Below p w ((wr.alloc o1).alloc o2) ∧ p ≤ ((wr.alloc o1).alloc o2).heap.size) := fun o1 o2 => ⟨ownK_far (HAL.out o1).1 (below_alloc _ o2), (HAL.out o1).2.trans ((below_alloc _ o2).mono (HPA.out o1)), Nat.le_trans (HPA.out o1) (below_alloc _ o2).size⟩
    have HAN : Hid (∀ o1 cs, ((wr.alloc o1).alloc (.cells cs Tk)).heap[wr.heap.size + 1]? = some (.cells cs Tk (0, 0))) := fun o1 cs => by have := alloc_new (wr.alloc o1) cs Tk; rwa [show (wr.alloc o1).heap.size = wr.heap.size + 1 by simp] at this
    have HLN : Hid ((sm (([⟨gCO, 45, o.wr⟩, ⟨gPR, 1, o.de⟩, ⟨gPR, 2, o.cn⟩, ⟨gPR, 3, o.cp⟩, ⟨gOA, 23, o.pr⟩] : List Ca).take 0)).length ≤ 1000000) := Nat.le_trans (sm_len _) (Nat.le_trans (List.length_take_le _ _) (by omega))
    cases hc : (o.wr != 0) with
    | true =>
     have HSM : Hid (sm (([⟨gCO, 45, o.wr⟩, ⟨gPR, 1, o.de⟩, ⟨gPR, 2, o.cn⟩, ⟨gPR, 3, o.cp⟩, ⟨gOA, 23, o.pr⟩] : List Ca).take 1) = sm (([⟨gCO, 45, o.wr⟩, ⟨gPR, 1, o.de⟩, ⟨gPR, 2, o.cn⟩, ⟨gPR, 3, o.cp⟩, ⟨gOA, 23, o.pr⟩] : List Ca).take 0) ++ [(⟨gCO, 45, o.wr⟩ : Ca)]) := sm_in (([⟨gCO, 45, o.wr⟩, ⟨gPR, 1, o.de⟩, ⟨gPR, 2, o.cn⟩, ⟨gPR, 3, o.cp⟩, ⟨gOA, 23, o.pr⟩] : List Ca).take 0) (⟨gCO, 45, o.wr⟩ : Ca) hc
     go_wp2_with (first | (at_builtin; refine wpList_plain (by rfl) (fun K hK => ?_); refine wp_appK _ _ rfl p (.slice u n c) _ rfl (HAL2.out _ _).1 _ 1 (⟨gCO, 45, o.wr⟩ : Ca) rfl (HAN.out _ _) HLN.out (HAL2.out _ _).2.2 (fun v' w' ho hg hat => ?_); refine hK _ _ ?_; have HB4 : Hid (Below p w w') := grow_ok (HAL2.out _ _).1 hg (HAL2.out _ _).2.2 (HAL2.out _ _).2.1; have HP4 : Hid (p ≤ w'.heap.size) := Nat.le_trans (HAL2.out _ _).2.2 hg.size; rw [← HSM.out] at ho; have HO4 := Lib.hid ho; obtain ⟨u', c', rfl, -, -⟩ := ownK_form ho; clear ho hg hat hK))
     go_roundg (5 - 1)
     case measure => omega
     case rel => exact ⟨1, 1, u', _, c', by omega, by omega, by omega, by first | rfl | go_num, rfl, HO4.out, HB4.out, HP4.out⟩
    | false =>
     have HSM : Hid (sm (([⟨gCO, 45, o.wr⟩, ⟨gPR, 1, o.de⟩, ⟨gPR, 2, o.cn⟩, ⟨gPR, 3, o.cp⟩, ⟨gOA, 23, o.pr⟩] : List Ca).take 1) = sm (([⟨gCO, 45, o.wr⟩, ⟨gPR, 1, o.de⟩, ⟨gPR, 2, o.cn⟩, ⟨gPR, 3, o.cp⟩, ⟨gOA, 23, o.pr⟩] : List Ca).take 0)) := sm_out (([⟨gCO, 45, o.wr⟩, ⟨gPR, 1, o.de⟩, ⟨gPR, 2, o.cn⟩, ⟨gPR, 3, o.cp⟩, ⟨gOA, 23, o.pr⟩] : List Ca).take 0) (⟨gCO, 45, o.wr⟩ : Ca) hc
     have HO4 : Hid (∀ o1, OwnK p (wr.alloc o1) (.slice u n c) (sm (([⟨gCO, 45, o.wr⟩, ⟨gPR, 1, o.de⟩, ⟨gPR, 2, o.cn⟩, ⟨gPR, 3, o.cp⟩, ⟨gOA, 23, o.pr⟩] : List Ca).take 1))) := fun o1 => by rw [HSM.out]; exact (HAL.out o1).1
     go_wp2
     go_roundg (5 - 1)
     case measure => omega
     case rel => exact ⟨1, 1, u, n, c, by omega, by omega, by omega, by first | rfl | go_num, rfl, HO4.out _, (HAL.out _).2, HPA.out _⟩
   ·obtain rfl : z = 1 := by omega
    clear hz
    have hix := idx_1 (.string { data := #[67, 79] }) (.int .i64 (45)) (.int .i64 o.wr) (.string { data := #[80, 82] }) (.int .i64 (1)) (.int .i64 o.de) (.string { data := #[80, 82] }) (.int .i64 (2)) (.int .i64 o.cn) (.string { data := #[80, 82] }) (.int .i64 (3)) (.int .i64 o.cp) (.string { data := #[79, 65] }) (.int .i64 (23)) (.int .i64 o.pr)
    have HAL : Hid (∀ o1, OwnK p (wr.alloc o1) (.slice u n c) (sm (([⟨gCO, 45, o.wr⟩, ⟨gPR, 1, o.de⟩, ⟨gPR, 2, o.cn⟩, ⟨gPR, 3, o.cp⟩, ⟨gOA, 23, o.pr⟩] : List Ca).take 1)) ∧ Below p w (wr.alloc o1)) := fun o1 => ⟨ownK_far HO.out (below_alloc wr o1), HBn.out.trans ((below_alloc wr o1).mono HPn.out)⟩
    have HPA : Hid (∀ o1, p ≤ (wr.alloc o1).heap.size) := fun o1 => Nat.le_trans HPn.out (below_alloc wr o1).size
    have HAL2 : Hid (∀ o1 o2, OwnK p ((wr.alloc o1).alloc o2) (.slice u n c) (sm (([⟨gCO, 45, o.wr⟩, ⟨gPR, 1, o.de⟩, ⟨gPR, 2, o.cn⟩, ⟨gPR, 3, o.cp⟩, ⟨gOA, 23, o.pr⟩] : List Ca).take 1)) ∧ Below p w ((wr.alloc o1).alloc o2) ∧ p ≤ ((wr.alloc o1).alloc o2).heap.size) := fun o1 o2 => ⟨ownK_far (HAL.out o1).1 (below_alloc _ o2), (HAL.out o1).2.trans ((below_alloc _ o2).mono (HPA.out o1)), Nat.le_trans (HPA.out o1) (below_alloc _ o2).size⟩
    have HAN : Hid (∀ o1 cs, ((wr.alloc o1).alloc (.cells cs Tk)).heap[wr.heap.size + 1]? = some (.cells cs Tk (0, 0))) := fun o1 cs => by have := alloc_new (wr.alloc o1) cs Tk; rwa [show (wr.alloc o1).heap.size = wr.heap.size + 1 by simp] at this
    have HLN : Hid ((sm (([⟨gCO, 45, o.wr⟩, ⟨gPR, 1, o.de⟩, ⟨gPR, 2, o.cn⟩, ⟨gPR, 3, o.cp⟩, ⟨gOA, 23, o.pr⟩] : List Ca).take 1)).length ≤ 1000000) := Nat.le_trans (sm_len _) (Nat.le_trans (List.length_take_le _ _) (by omega))
    cases hc : (o.de != 0) with
    | true =>
     have HSM : Hid (sm (([⟨gCO, 45, o.wr⟩, ⟨gPR, 1, o.de⟩, ⟨gPR, 2, o.cn⟩, ⟨gPR, 3, o.cp⟩, ⟨gOA, 23, o.pr⟩] : List Ca).take 2) = sm (([⟨gCO, 45, o.wr⟩, ⟨gPR, 1, o.de⟩, ⟨gPR, 2, o.cn⟩, ⟨gPR, 3, o.cp⟩, ⟨gOA, 23, o.pr⟩] : List Ca).take 1) ++ [(⟨gPR, 1, o.de⟩ : Ca)]) := sm_in (([⟨gCO, 45, o.wr⟩, ⟨gPR, 1, o.de⟩, ⟨gPR, 2, o.cn⟩, ⟨gPR, 3, o.cp⟩, ⟨gOA, 23, o.pr⟩] : List Ca).take 1) (⟨gPR, 1, o.de⟩ : Ca) hc
     go_wp2_with (first | (at_builtin; refine wpList_plain (by rfl) (fun K hK => ?_); refine wp_appK _ _ rfl p (.slice u n c) _ rfl (HAL2.out _ _).1 _ 1 (⟨gPR, 1, o.de⟩ : Ca) rfl (HAN.out _ _) HLN.out (HAL2.out _ _).2.2 (fun v' w' ho hg hat => ?_); refine hK _ _ ?_; have HB4 : Hid (Below p w w') := grow_ok (HAL2.out _ _).1 hg (HAL2.out _ _).2.2 (HAL2.out _ _).2.1; have HP4 : Hid (p ≤ w'.heap.size) := Nat.le_trans (HAL2.out _ _).2.2 hg.size; rw [← HSM.out] at ho; have HO4 := Lib.hid ho; obtain ⟨u', c', rfl, -, -⟩ := ownK_form ho; clear ho hg hat hK))
     go_roundg (5 - 2)
     case measure => omega
     case rel => exact ⟨2, 2, u', _, c', by omega, by omega, by omega, by first | rfl | go_num, rfl, HO4.out, HB4.out, HP4.out⟩
    | false =>
     have HSM : Hid (sm (([⟨gCO, 45, o.wr⟩, ⟨gPR, 1, o.de⟩, ⟨gPR, 2, o.cn⟩, ⟨gPR, 3, o.cp⟩, ⟨gOA, 23, o.pr⟩] : List Ca).take 2) = sm (([⟨gCO, 45, o.wr⟩, ⟨gPR, 1, o.de⟩, ⟨gPR, 2, o.cn⟩, ⟨gPR, 3, o.cp⟩, ⟨gOA, 23, o.pr⟩] : List Ca).take 1)) := sm_out (([⟨gCO, 45, o.wr⟩, ⟨gPR, 1, o.de⟩, ⟨gPR, 2, o.cn⟩, ⟨gPR, 3, o.cp⟩, ⟨gOA, 23, o.pr⟩] : List Ca).take 1) (⟨gPR, 1, o.de⟩ : Ca) hc
     have HO4 : Hid (∀ o1, OwnK p (wr.alloc o1) (.slice u n c) (sm (([⟨gCO, 45, o.wr⟩, ⟨gPR, 1, o.de⟩, ⟨gPR, 2, o.cn⟩, ⟨gPR, 3, o.cp⟩, ⟨gOA, 23, o.pr⟩] : List Ca).take 2))) := fun o1 => by rw [HSM.out]; exact (HAL.out o1).1
     go_wp2
     go_roundg (5 - 2)
     case measure => omega
     case rel => exact ⟨2, 2, u, n, c, by omega, by omega, by omega, by first | rfl | go_num, rfl, HO4.out _, (HAL.out _).2, HPA.out _⟩
   ·obtain rfl : z = 2 := by omega
    clear hz
    have hix := idx_2 (.string { data := #[67, 79] }) (.int .i64 (45)) (.int .i64 o.wr) (.string { data := #[80, 82] }) (.int .i64 (1)) (.int .i64 o.de) (.string { data := #[80, 82] }) (.int .i64 (2)) (.int .i64 o.cn) (.string { data := #[80, 82] }) (.int .i64 (3)) (.int .i64 o.cp) (.string { data := #[79, 65] }) (.int .i64 (23)) (.int .i64 o.pr)
    have HAL : Hid (∀ o1, OwnK p (wr.alloc o1) (.slice u n c) (sm (([⟨gCO, 45, o.wr⟩, ⟨gPR, 1, o.de⟩, ⟨gPR, 2, o.cn⟩, ⟨gPR, 3, o.cp⟩, ⟨gOA, 23, o.pr⟩] : List Ca).take 2)) ∧ Below p w (wr.alloc o1)) := fun o1 => ⟨ownK_far HO.out (below_alloc wr o1), HBn.out.trans ((below_alloc wr o1).mono HPn.out)⟩
    have HPA : Hid (∀ o1, p ≤ (wr.alloc o1).heap.size) := fun o1 => Nat.le_trans HPn.out (below_alloc wr o1).size
    have HAL2 : Hid (∀ o1 o2, OwnK p ((wr.alloc o1).alloc o2) (.slice u n c) (sm (([⟨gCO, 45, o.wr⟩, ⟨gPR, 1, o.de⟩, ⟨gPR, 2, o.cn⟩, ⟨gPR, 3, o.cp⟩, ⟨gOA, 23, o.pr⟩] : List Ca).take 2)) ∧ Below p w ((wr.alloc o1).alloc o2) ∧ p ≤ ((wr.alloc o1).alloc o2).heap.size) := fun o1 o2 => ⟨ownK_far (HAL.out o1).1 (below_alloc _ o2), (HAL.out o1).2.trans ((below_alloc _ o2).mono (HPA.out o1)), Nat.le_trans (HPA.out o1) (below_alloc _ o2).size⟩
    have HAN : Hid (∀ o1 cs, ((wr.alloc o1).alloc (.cells cs Tk)).heap[wr.heap.size + 1]? = some (.cells cs Tk (0, 0))) := fun o1 cs => by have := alloc_new (wr.alloc o1) cs Tk; rwa [show (wr.alloc o1).heap.size = wr.heap.size + 1 by simp] at this
    have HLN : Hid ((sm (([⟨gCO, 45, o.wr⟩, ⟨gPR, 1, o.de⟩, ⟨gPR, 2, o.cn⟩, ⟨gPR, 3, o.cp⟩, ⟨gOA, 23, o.pr⟩] : List Ca).take 2)).length ≤ 1000000) := Nat.le_trans (sm_len _) (Nat.le_trans (List.length_take_le _ _) (by omega))
    cases hc : (o.cn != 0) with
    | true =>
     have HSM : Hid (sm (([⟨gCO, 45, o.wr⟩, ⟨gPR, 1, o.de⟩, ⟨gPR, 2, o.cn⟩, ⟨gPR, 3, o.cp⟩, ⟨gOA, 23, o.pr⟩] : List Ca).take 3) = sm (([⟨gCO, 45, o.wr⟩, ⟨gPR, 1, o.de⟩, ⟨gPR, 2, o.cn⟩, ⟨gPR, 3, o.cp⟩, ⟨gOA, 23, o.pr⟩] : List Ca).take 2) ++ [(⟨gPR, 2, o.cn⟩ : Ca)]) := sm_in (([⟨gCO, 45, o.wr⟩, ⟨gPR, 1, o.de⟩, ⟨gPR, 2, o.cn⟩, ⟨gPR, 3, o.cp⟩, ⟨gOA, 23, o.pr⟩] : List Ca).take 2) (⟨gPR, 2, o.cn⟩ : Ca) hc
     go_wp2_with (first | (at_builtin; refine wpList_plain (by rfl) (fun K hK => ?_); refine wp_appK _ _ rfl p (.slice u n c) _ rfl (HAL2.out _ _).1 _ 1 (⟨gPR, 2, o.cn⟩ : Ca) rfl (HAN.out _ _) HLN.out (HAL2.out _ _).2.2 (fun v' w' ho hg hat => ?_); refine hK _ _ ?_; have HB4 : Hid (Below p w w') := grow_ok (HAL2.out _ _).1 hg (HAL2.out _ _).2.2 (HAL2.out _ _).2.1; have HP4 : Hid (p ≤ w'.heap.size) := Nat.le_trans (HAL2.out _ _).2.2 hg.size; rw [← HSM.out] at ho; have HO4 := Lib.hid ho; obtain ⟨u', c', rfl, -, -⟩ := ownK_form ho; clear ho hg hat hK))
     go_roundg (5 - 3)
     case measure => omega
     case rel => exact ⟨3, 3, u', _, c', by omega, by omega, by omega, by first | rfl | go_num, rfl, HO4.out, HB4.out, HP4.out⟩
    | false =>
     have HSM : Hid (sm (([⟨gCO, 45, o.wr⟩, ⟨gPR, 1, o.de⟩, ⟨gPR, 2, o.cn⟩, ⟨gPR, 3, o.cp⟩, ⟨gOA, 23, o.pr⟩] : List Ca).take 3) = sm (([⟨gCO, 45, o.wr⟩, ⟨gPR, 1, o.de⟩, ⟨gPR, 2, o.cn⟩, ⟨gPR, 3, o.cp⟩, ⟨gOA, 23, o.pr⟩] : List Ca).take 2)) := sm_out (([⟨gCO, 45, o.wr⟩, ⟨gPR, 1, o.de⟩, ⟨gPR, 2, o.cn⟩, ⟨gPR, 3, o.cp⟩, ⟨gOA, 23, o.pr⟩] : List Ca).take 2) (⟨gPR, 2, o.cn⟩ : Ca) hc
     have HO4 : Hid (∀ o1, OwnK p (wr.alloc o1) (.slice u n c) (sm (([⟨gCO, 45, o.wr⟩, ⟨gPR, 1, o.de⟩, ⟨gPR, 2, o.cn⟩, ⟨gPR, 3, o.cp⟩, ⟨gOA, 23, o.pr⟩] : List Ca).take 3))) := fun o1 => by rw [HSM.out]; exact (HAL.out o1).1
     go_wp2
     go_roundg (5 - 3)
     case measure => omega
     case rel => exact ⟨3, 3, u, n, c, by omega, by omega, by omega, by first | rfl | go_num, rfl, HO4.out _, (HAL.out _).2, HPA.out _⟩
   ·obtain rfl : z = 3 := by omega
    clear hz
    have hix := idx_3 (.string { data := #[67, 79] }) (.int .i64 (45)) (.int .i64 o.wr) (.string { data := #[80, 82] }) (.int .i64 (1)) (.int .i64 o.de) (.string { data := #[80, 82] }) (.int .i64 (2)) (.int .i64 o.cn) (.string { data := #[80, 82] }) (.int .i64 (3)) (.int .i64 o.cp) (.string { data := #[79, 65] }) (.int .i64 (23)) (.int .i64 o.pr)
    have HAL : Hid (∀ o1, OwnK p (wr.alloc o1) (.slice u n c) (sm (([⟨gCO, 45, o.wr⟩, ⟨gPR, 1, o.de⟩, ⟨gPR, 2, o.cn⟩, ⟨gPR, 3, o.cp⟩, ⟨gOA, 23, o.pr⟩] : List Ca).take 3)) ∧ Below p w (wr.alloc o1)) := fun o1 => ⟨ownK_far HO.out (below_alloc wr o1), HBn.out.trans ((below_alloc wr o1).mono HPn.out)⟩
    have HPA : Hid (∀ o1, p ≤ (wr.alloc o1).heap.size) := fun o1 => Nat.le_trans HPn.out (below_alloc wr o1).size
    have HAL2 : Hid (∀ o1 o2, OwnK p ((wr.alloc o1).alloc o2) (.slice u n c) (sm (([⟨gCO, 45, o.wr⟩, ⟨gPR, 1, o.de⟩, ⟨gPR, 2, o.cn⟩, ⟨gPR, 3, o.cp⟩, ⟨gOA, 23, o.pr⟩] : List Ca).take 3)) ∧ Below p w ((wr.alloc o1).alloc o2) ∧ p ≤ ((wr.alloc o1).alloc o2).heap.size) := fun o1 o2 => ⟨ownK_far (HAL.out o1).1 (below_alloc _ o2), (HAL.out o1).2.trans ((below_alloc _ o2).mono (HPA.out o1)), Nat.le_trans (HPA.out o1) (below_alloc _ o2).size⟩
    have HAN : Hid (∀ o1 cs, ((wr.alloc o1).alloc (.cells cs Tk)).heap[wr.heap.size + 1]? = some (.cells cs Tk (0, 0))) := fun o1 cs => by have := alloc_new (wr.alloc o1) cs Tk; rwa [show (wr.alloc o1).heap.size = wr.heap.size + 1 by simp] at this
    have HLN : Hid ((sm (([⟨gCO, 45, o.wr⟩, ⟨gPR, 1, o.de⟩, ⟨gPR, 2, o.cn⟩, ⟨gPR, 3, o.cp⟩, ⟨gOA, 23, o.pr⟩] : List Ca).take 3)).length ≤ 1000000) := Nat.le_trans (sm_len _) (Nat.le_trans (List.length_take_le _ _) (by omega))
    cases hc : (o.cp != 0) with
    | true =>
     have HSM : Hid (sm (([⟨gCO, 45, o.wr⟩, ⟨gPR, 1, o.de⟩, ⟨gPR, 2, o.cn⟩, ⟨gPR, 3, o.cp⟩, ⟨gOA, 23, o.pr⟩] : List Ca).take 4) = sm (([⟨gCO, 45, o.wr⟩, ⟨gPR, 1, o.de⟩, ⟨gPR, 2, o.cn⟩, ⟨gPR, 3, o.cp⟩, ⟨gOA, 23, o.pr⟩] : List Ca).take 3) ++ [(⟨gPR, 3, o.cp⟩ : Ca)]) := sm_in (([⟨gCO, 45, o.wr⟩, ⟨gPR, 1, o.de⟩, ⟨gPR, 2, o.cn⟩, ⟨gPR, 3, o.cp⟩, ⟨gOA, 23, o.pr⟩] : List Ca).take 3) (⟨gPR, 3, o.cp⟩ : Ca) hc
     go_wp2_with (first | (at_builtin; refine wpList_plain (by rfl) (fun K hK => ?_); refine wp_appK _ _ rfl p (.slice u n c) _ rfl (HAL2.out _ _).1 _ 1 (⟨gPR, 3, o.cp⟩ : Ca) rfl (HAN.out _ _) HLN.out (HAL2.out _ _).2.2 (fun v' w' ho hg hat => ?_); refine hK _ _ ?_; have HB4 : Hid (Below p w w') := grow_ok (HAL2.out _ _).1 hg (HAL2.out _ _).2.2 (HAL2.out _ _).2.1; have HP4 : Hid (p ≤ w'.heap.size) := Nat.le_trans (HAL2.out _ _).2.2 hg.size; rw [← HSM.out] at ho; have HO4 := Lib.hid ho; obtain ⟨u', c', rfl, -, -⟩ := ownK_form ho; clear ho hg hat hK))
     go_roundg (5 - 4)
     case measure => omega
     case rel => exact ⟨4, 4, u', _, c', by omega, by omega, by omega, by first | rfl | go_num, rfl, HO4.out, HB4.out, HP4.out⟩
    | false =>
     have HSM : Hid (sm (([⟨gCO, 45, o.wr⟩, ⟨gPR, 1, o.de⟩, ⟨gPR, 2, o.cn⟩, ⟨gPR, 3, o.cp⟩, ⟨gOA, 23, o.pr⟩] : List Ca).take 4) = sm (([⟨gCO, 45, o.wr⟩, ⟨gPR, 1, o.de⟩, ⟨gPR, 2, o.cn⟩, ⟨gPR, 3, o.cp⟩, ⟨gOA, 23, o.pr⟩] : List Ca).take 3)) := sm_out (([⟨gCO, 45, o.wr⟩, ⟨gPR, 1, o.de⟩, ⟨gPR, 2, o.cn⟩, ⟨gPR, 3, o.cp⟩, ⟨gOA, 23, o.pr⟩] : List Ca).take 3) (⟨gPR, 3, o.cp⟩ : Ca) hc
     have HO4 : Hid (∀ o1, OwnK p (wr.alloc o1) (.slice u n c) (sm (([⟨gCO, 45, o.wr⟩, ⟨gPR, 1, o.de⟩, ⟨gPR, 2, o.cn⟩, ⟨gPR, 3, o.cp⟩, ⟨gOA, 23, o.pr⟩] : List Ca).take 4))) := fun o1 => by rw [HSM.out]; exact (HAL.out o1).1
     go_wp2
     go_roundg (5 - 4)
     case measure => omega
     case rel => exact ⟨4, 4, u, n, c, by omega, by omega, by omega, by first | rfl | go_num, rfl, HO4.out _, (HAL.out _).2, HPA.out _⟩
   ·obtain rfl : z = 4 := by omega
    clear hz
    have hix := idx_4 (.string { data := #[67, 79] }) (.int .i64 (45)) (.int .i64 o.wr) (.string { data := #[80, 82] }) (.int .i64 (1)) (.int .i64 o.de) (.string { data := #[80, 82] }) (.int .i64 (2)) (.int .i64 o.cn) (.string { data := #[80, 82] }) (.int .i64 (3)) (.int .i64 o.cp) (.string { data := #[79, 65] }) (.int .i64 (23)) (.int .i64 o.pr)
    have HAL : Hid (∀ o1, OwnK p (wr.alloc o1) (.slice u n c) (sm (([⟨gCO, 45, o.wr⟩, ⟨gPR, 1, o.de⟩, ⟨gPR, 2, o.cn⟩, ⟨gPR, 3, o.cp⟩, ⟨gOA, 23, o.pr⟩] : List Ca).take 4)) ∧ Below p w (wr.alloc o1)) := fun o1 => ⟨ownK_far HO.out (below_alloc wr o1), HBn.out.trans ((below_alloc wr o1).mono HPn.out)⟩
    have HPA : Hid (∀ o1, p ≤ (wr.alloc o1).heap.size) := fun o1 => Nat.le_trans HPn.out (below_alloc wr o1).size
    have HAL2 : Hid (∀ o1 o2, OwnK p ((wr.alloc o1).alloc o2) (.slice u n c) (sm (([⟨gCO, 45, o.wr⟩, ⟨gPR, 1, o.de⟩, ⟨gPR, 2, o.cn⟩, ⟨gPR, 3, o.cp⟩, ⟨gOA, 23, o.pr⟩] : List Ca).take 4)) ∧ Below p w ((wr.alloc o1).alloc o2) ∧ p ≤ ((wr.alloc o1).alloc o2).heap.size) := fun o1 o2 => ⟨ownK_far (HAL.out o1).1 (below_alloc _ o2), (HAL.out o1).2.trans ((below_alloc _ o2).mono (HPA.out o1)), Nat.le_trans (HPA.out o1) (below_alloc _ o2).size⟩
    have HAN : Hid (∀ o1 cs, ((wr.alloc o1).alloc (.cells cs Tk)).heap[wr.heap.size + 1]? = some (.cells cs Tk (0, 0))) := fun o1 cs => by have := alloc_new (wr.alloc o1) cs Tk; rwa [show (wr.alloc o1).heap.size = wr.heap.size + 1 by simp] at this
    have HLN : Hid ((sm (([⟨gCO, 45, o.wr⟩, ⟨gPR, 1, o.de⟩, ⟨gPR, 2, o.cn⟩, ⟨gPR, 3, o.cp⟩, ⟨gOA, 23, o.pr⟩] : List Ca).take 4)).length ≤ 1000000) := Nat.le_trans (sm_len _) (Nat.le_trans (List.length_take_le _ _) (by omega))
    cases hc : (o.pr != 0) with
    | true =>
     have HSM : Hid (sm (([⟨gCO, 45, o.wr⟩, ⟨gPR, 1, o.de⟩, ⟨gPR, 2, o.cn⟩, ⟨gPR, 3, o.cp⟩, ⟨gOA, 23, o.pr⟩] : List Ca).take 5) = sm (([⟨gCO, 45, o.wr⟩, ⟨gPR, 1, o.de⟩, ⟨gPR, 2, o.cn⟩, ⟨gPR, 3, o.cp⟩, ⟨gOA, 23, o.pr⟩] : List Ca).take 4) ++ [(⟨gOA, 23, o.pr⟩ : Ca)]) := sm_in (([⟨gCO, 45, o.wr⟩, ⟨gPR, 1, o.de⟩, ⟨gPR, 2, o.cn⟩, ⟨gPR, 3, o.cp⟩, ⟨gOA, 23, o.pr⟩] : List Ca).take 4) (⟨gOA, 23, o.pr⟩ : Ca) hc
     go_wp2_with (first | (at_builtin; refine wpList_plain (by rfl) (fun K hK => ?_); refine wp_appK _ _ rfl p (.slice u n c) _ rfl (HAL2.out _ _).1 _ 1 (⟨gOA, 23, o.pr⟩ : Ca) rfl (HAN.out _ _) HLN.out (HAL2.out _ _).2.2 (fun v' w' ho hg hat => ?_); refine hK _ _ ?_; have HB4 : Hid (Below p w w') := grow_ok (HAL2.out _ _).1 hg (HAL2.out _ _).2.2 (HAL2.out _ _).2.1; have HP4 : Hid (p ≤ w'.heap.size) := Nat.le_trans (HAL2.out _ _).2.2 hg.size; rw [← HSM.out] at ho; have HO4 := Lib.hid ho; obtain ⟨u', c', rfl, -, -⟩ := ownK_form ho; clear ho hg hat hK))
     go_roundg (5 - 5)
     case measure => omega
     case rel => exact ⟨5, 5, u', _, c', by omega, by omega, by omega, by first | rfl | go_num, rfl, HO4.out, HB4.out, HP4.out⟩
    | false =>
     have HSM : Hid (sm (([⟨gCO, 45, o.wr⟩, ⟨gPR, 1, o.de⟩, ⟨gPR, 2, o.cn⟩, ⟨gPR, 3, o.cp⟩, ⟨gOA, 23, o.pr⟩] : List Ca).take 5) = sm (([⟨gCO, 45, o.wr⟩, ⟨gPR, 1, o.de⟩, ⟨gPR, 2, o.cn⟩, ⟨gPR, 3, o.cp⟩, ⟨gOA, 23, o.pr⟩] : List Ca).take 4)) := sm_out (([⟨gCO, 45, o.wr⟩, ⟨gPR, 1, o.de⟩, ⟨gPR, 2, o.cn⟩, ⟨gPR, 3, o.cp⟩, ⟨gOA, 23, o.pr⟩] : List Ca).take 4) (⟨gOA, 23, o.pr⟩ : Ca) hc
     have HO4 : Hid (∀ o1, OwnK p (wr.alloc o1) (.slice u n c) (sm (([⟨gCO, 45, o.wr⟩, ⟨gPR, 1, o.de⟩, ⟨gPR, 2, o.cn⟩, ⟨gPR, 3, o.cp⟩, ⟨gOA, 23, o.pr⟩] : List Ca).take 5))) := fun o1 => by rw [HSM.out]; exact (HAL.out o1).1
     go_wp2
     go_roundg (5 - 5)
     case measure => omega
     case rel => exact ⟨5, 5, u, n, c, by omega, by omega, by omega, by first | rfl | go_num, rfl, HO4.out _, (HAL.out _).2, HPA.out _⟩
   ·obtain rfl : z = 5 := by omega
    clear hz
    go_wp2
    go_ret
    exact ⟨_, rfl, by first | exact HO.out | (rw [hp]; exact HO.out), by first | exact HBn.out | (rw [hp]; exact HBn.out)⟩
 ·have hy := HY.out.2 hd
  have hdb : (o.deny == 0) = false := by simpa using hd
  subst hy
  clear HY hd
  have HB1 : Hid (Below p w (W.alloc (.cells (#[.string { data := #[67, 79] }, .int .i64 (o.deny), .int .i64 o.wr, .string { data := #[80, 82] }, .int .i64 (1), .int .i64 o.de, .string { data := #[80, 82] }, .int .i64 (2), .int .i64 o.cn, .string { data := #[80, 82] }, .int .i64 (3), .int .i64 o.cp, .string { data := #[79, 65] }, .int .i64 (23), .int .i64 o.pr] : Array Value) 102))) := HB.out.trans ((below_alloc W _).mono HPW.out)
  have HP1 : Hid (p ≤ (W.alloc (.cells (#[.string { data := #[67, 79] }, .int .i64 (o.deny), .int .i64 o.wr, .string { data := #[80, 82] }, .int .i64 (1), .int .i64 o.de, .string { data := #[80, 82] }, .int .i64 (2), .int .i64 o.cn, .string { data := #[80, 82] }, .int .i64 (3), .int .i64 o.cp, .string { data := #[79, 65] }, .int .i64 (23), .int .i64 o.pr] : Array Value) 102)).heap.size) := Nat.le_trans HPW.out (below_alloc W _).size
  go_wp2
  generalize (W.alloc (.cells (#[.string { data := #[67, 79] }, .int .i64 (o.deny), .int .i64 o.wr, .string { data := #[80, 82] }, .int .i64 (1), .int .i64 o.de, .string { data := #[80, 82] }, .int .i64 (2), .int .i64 o.cn, .string { data := #[80, 82] }, .int .i64 (3), .int .i64 o.cp, .string { data := #[79, 65] }, .int .i64 (23), .int .i64 o.pr] : Array Value) 102)) = W1 at *
  go_loopg [5, 30] 5 (fun gg t5 t30 wr => ∃ (k : Nat) (z : Int) (u : Option Addr) (n c : Nat), k ≤ 5 ∧ gg = 5 - k ∧ z = (k : Int) ∧ t30 = .int .i64 z ∧ t5 = .slice u n c ∧ Hid (OwnK p wr (.slice u n c) (sm (([⟨gCO, o.deny, o.wr⟩, ⟨gPR, 1, o.de⟩, ⟨gPR, 2, o.cn⟩, ⟨gPR, 3, o.cp⟩, ⟨gOA, 23, o.pr⟩] : List Ca).take k))) ∧ Hid (Below p w wr) ∧ Hid (p ≤ wr.heap.size))
  case atStart => exact ⟨0, 0, none, 0, 0, by omega, rfl, rfl, rfl, rfl, ownK_nil _ _, HB1.out, HP1.out⟩
  case round =>
   obtain ⟨k, z, u, n, c, hk, hg, hz, rfl, rfl, HO, HBn, HPn⟩ := hrel
   have hkk : k = 0 ∨ k = 1 ∨ k = 2 ∨ k = 3 ∨ k = 4 ∨ k = 5 := by omega
   rcases hkk with rfl | rfl | rfl | rfl | rfl | rfl
   ·obtain rfl : z = 0 := by omega
    clear hz
    have hix := idx_0 (.string { data := #[67, 79] }) (.int .i64 (o.deny)) (.int .i64 o.wr) (.string { data := #[80, 82] }) (.int .i64 (1)) (.int .i64 o.de) (.string { data := #[80, 82] }) (.int .i64 (2)) (.int .i64 o.cn) (.string { data := #[80, 82] }) (.int .i64 (3)) (.int .i64 o.cp) (.string { data := #[79, 65] }) (.int .i64 (23)) (.int .i64 o.pr)
    have HAL : Hid (∀ o1, OwnK p (wr.alloc o1) (.slice u n c) (sm (([⟨gCO, o.deny, o.wr⟩, ⟨gPR, 1, o.de⟩, ⟨gPR, 2, o.cn⟩, ⟨gPR, 3, o.cp⟩, ⟨gOA, 23, o.pr⟩] : List Ca).take 0)) ∧ Below p w (wr.alloc o1)) := fun o1 => ⟨ownK_far HO.out (below_alloc wr o1), HBn.out.trans ((below_alloc wr o1).mono HPn.out)⟩
    have HPA : Hid (∀ o1, p ≤ (wr.alloc o1).heap.size) := fun o1 => Nat.le_trans HPn.out (below_alloc wr o1).size
    have HAL2 : Hid (∀ o1 o2, OwnK p ((wr.alloc o1).alloc o2) (.slice u n c) (sm (([⟨gCO, o.deny, o.wr⟩, ⟨gPR, 1, o.de⟩, ⟨gPR, 2, o.cn⟩, ⟨gPR, 3, o.cp⟩, ⟨gOA, 23, o.pr⟩] : List Ca).take 0)) ∧ Below p w ((wr.alloc o1).alloc o2) ∧ p ≤ ((wr.alloc o1).alloc o2).heap.size) := fun o1 o2 => ⟨ownK_far (HAL.out o1).1 (below_alloc _ o2), (HAL.out o1).2.trans ((below_alloc _ o2).mono (HPA.out o1)), Nat.le_trans (HPA.out o1) (below_alloc _ o2).size⟩
    have HAN : Hid (∀ o1 cs, ((wr.alloc o1).alloc (.cells cs Tk)).heap[wr.heap.size + 1]? = some (.cells cs Tk (0, 0))) := fun o1 cs => by have := alloc_new (wr.alloc o1) cs Tk; rwa [show (wr.alloc o1).heap.size = wr.heap.size + 1 by simp] at this
    have HLN : Hid ((sm (([⟨gCO, o.deny, o.wr⟩, ⟨gPR, 1, o.de⟩, ⟨gPR, 2, o.cn⟩, ⟨gPR, 3, o.cp⟩, ⟨gOA, 23, o.pr⟩] : List Ca).take 0)).length ≤ 1000000) := Nat.le_trans (sm_len _) (Nat.le_trans (List.length_take_le _ _) (by omega))
    cases hc : (o.wr != 0) with
    | true =>
     have HSM : Hid (sm (([⟨gCO, o.deny, o.wr⟩, ⟨gPR, 1, o.de⟩, ⟨gPR, 2, o.cn⟩, ⟨gPR, 3, o.cp⟩, ⟨gOA, 23, o.pr⟩] : List Ca).take 1) = sm (([⟨gCO, o.deny, o.wr⟩, ⟨gPR, 1, o.de⟩, ⟨gPR, 2, o.cn⟩, ⟨gPR, 3, o.cp⟩, ⟨gOA, 23, o.pr⟩] : List Ca).take 0) ++ [(⟨gCO, o.deny, o.wr⟩ : Ca)]) := sm_in (([⟨gCO, o.deny, o.wr⟩, ⟨gPR, 1, o.de⟩, ⟨gPR, 2, o.cn⟩, ⟨gPR, 3, o.cp⟩, ⟨gOA, 23, o.pr⟩] : List Ca).take 0) (⟨gCO, o.deny, o.wr⟩ : Ca) hc
     go_wp2_with (first | (at_builtin; refine wpList_plain (by rfl) (fun K hK => ?_); refine wp_appK _ _ rfl p (.slice u n c) _ rfl (HAL2.out _ _).1 _ 1 (⟨gCO, o.deny, o.wr⟩ : Ca) rfl (HAN.out _ _) HLN.out (HAL2.out _ _).2.2 (fun v' w' ho hg hat => ?_); refine hK _ _ ?_; have HB4 : Hid (Below p w w') := grow_ok (HAL2.out _ _).1 hg (HAL2.out _ _).2.2 (HAL2.out _ _).2.1; have HP4 : Hid (p ≤ w'.heap.size) := Nat.le_trans (HAL2.out _ _).2.2 hg.size; rw [← HSM.out] at ho; have HO4 := Lib.hid ho; obtain ⟨u', c', rfl, -, -⟩ := ownK_form ho; clear ho hg hat hK))
     go_roundg (5 - 1)
     case measure => omega
     case rel => exact ⟨1, 1, u', _, c', by omega, by omega, by omega, by first | rfl | go_num, rfl, HO4.out, HB4.out, HP4.out⟩
    | false =>
     have HSM : Hid (sm (([⟨gCO, o.deny, o.wr⟩, ⟨gPR, 1, o.de⟩, ⟨gPR, 2, o.cn⟩, ⟨gPR, 3, o.cp⟩, ⟨gOA, 23, o.pr⟩] : List Ca).take 1) = sm (([⟨gCO, o.deny, o.wr⟩, ⟨gPR, 1, o.de⟩, ⟨gPR, 2, o.cn⟩, ⟨gPR, 3, o.cp⟩, ⟨gOA, 23, o.pr⟩] : List Ca).take 0)) := sm_out (([⟨gCO, o.deny, o.wr⟩, ⟨gPR, 1, o.de⟩, ⟨gPR, 2, o.cn⟩, ⟨gPR, 3, o.cp⟩, ⟨gOA, 23, o.pr⟩] : List Ca).take 0) (⟨gCO, o.deny, o.wr⟩ : Ca) hc
     have HO4 : Hid (∀ o1, OwnK p (wr.alloc o1) (.slice u n c) (sm (([⟨gCO, o.deny, o.wr⟩, ⟨gPR, 1, o.de⟩, ⟨gPR, 2, o.cn⟩, ⟨gPR, 3, o.cp⟩, ⟨gOA, 23, o.pr⟩] : List Ca).take 1))) := fun o1 => by rw [HSM.out]; exact (HAL.out o1).1
     go_wp2
     go_roundg (5 - 1)
     case measure => omega
     case rel => exact ⟨1, 1, u, n, c, by omega, by omega, by omega, by first | rfl | go_num, rfl, HO4.out _, (HAL.out _).2, HPA.out _⟩
   ·obtain rfl : z = 1 := by omega
    clear hz
    have hix := idx_1 (.string { data := #[67, 79] }) (.int .i64 (o.deny)) (.int .i64 o.wr) (.string { data := #[80, 82] }) (.int .i64 (1)) (.int .i64 o.de) (.string { data := #[80, 82] }) (.int .i64 (2)) (.int .i64 o.cn) (.string { data := #[80, 82] }) (.int .i64 (3)) (.int .i64 o.cp) (.string { data := #[79, 65] }) (.int .i64 (23)) (.int .i64 o.pr)
    have HAL : Hid (∀ o1, OwnK p (wr.alloc o1) (.slice u n c) (sm (([⟨gCO, o.deny, o.wr⟩, ⟨gPR, 1, o.de⟩, ⟨gPR, 2, o.cn⟩, ⟨gPR, 3, o.cp⟩, ⟨gOA, 23, o.pr⟩] : List Ca).take 1)) ∧ Below p w (wr.alloc o1)) := fun o1 => ⟨ownK_far HO.out (below_alloc wr o1), HBn.out.trans ((below_alloc wr o1).mono HPn.out)⟩
    have HPA : Hid (∀ o1, p ≤ (wr.alloc o1).heap.size) := fun o1 => Nat.le_trans HPn.out (below_alloc wr o1).size
    have HAL2 : Hid (∀ o1 o2, OwnK p ((wr.alloc o1).alloc o2) (.slice u n c) (sm (([⟨gCO, o.deny, o.wr⟩, ⟨gPR, 1, o.de⟩, ⟨gPR, 2, o.cn⟩, ⟨gPR, 3, o.cp⟩, ⟨gOA, 23, o.pr⟩] : List Ca).take 1)) ∧ Below p w ((wr.alloc o1).alloc o2) ∧ p ≤ ((wr.alloc o1).alloc o2).heap.size) := fun o1 o2 => ⟨ownK_far (HAL.out o1).1 (below_alloc _ o2), (HAL.out o1).2.trans ((below_alloc _ o2).mono (HPA.out o1)), Nat.le_trans (HPA.out o1) (below_alloc _ o2).size⟩
    have HAN : Hid (∀ o1 cs, ((wr.alloc o1).alloc (.cells cs Tk)).heap[wr.heap.size + 1]? = some (.cells cs Tk (0, 0))) := fun o1 cs => by have := alloc_new (wr.alloc o1) cs Tk; rwa [show (wr.alloc o1).heap.size = wr.heap.size + 1 by simp] at this
    have HLN : Hid ((sm (([⟨gCO, o.deny, o.wr⟩, ⟨gPR, 1, o.de⟩, ⟨gPR, 2, o.cn⟩, ⟨gPR, 3, o.cp⟩, ⟨gOA, 23, o.pr⟩] : List Ca).take 1)).length ≤ 1000000) := Nat.le_trans (sm_len _) (Nat.le_trans (List.length_take_le _ _) (by omega))
    cases hc : (o.de != 0) with
    | true =>
     have HSM : Hid (sm (([⟨gCO, o.deny, o.wr⟩, ⟨gPR, 1, o.de⟩, ⟨gPR, 2, o.cn⟩, ⟨gPR, 3, o.cp⟩, ⟨gOA, 23, o.pr⟩] : List Ca).take 2) = sm (([⟨gCO, o.deny, o.wr⟩, ⟨gPR, 1, o.de⟩, ⟨gPR, 2, o.cn⟩, ⟨gPR, 3, o.cp⟩, ⟨gOA, 23, o.pr⟩] : List Ca).take 1) ++ [(⟨gPR, 1, o.de⟩ : Ca)]) := sm_in (([⟨gCO, o.deny, o.wr⟩, ⟨gPR, 1, o.de⟩, ⟨gPR, 2, o.cn⟩, ⟨gPR, 3, o.cp⟩, ⟨gOA, 23, o.pr⟩] : List Ca).take 1) (⟨gPR, 1, o.de⟩ : Ca) hc
     go_wp2_with (first | (at_builtin; refine wpList_plain (by rfl) (fun K hK => ?_); refine wp_appK _ _ rfl p (.slice u n c) _ rfl (HAL2.out _ _).1 _ 1 (⟨gPR, 1, o.de⟩ : Ca) rfl (HAN.out _ _) HLN.out (HAL2.out _ _).2.2 (fun v' w' ho hg hat => ?_); refine hK _ _ ?_; have HB4 : Hid (Below p w w') := grow_ok (HAL2.out _ _).1 hg (HAL2.out _ _).2.2 (HAL2.out _ _).2.1; have HP4 : Hid (p ≤ w'.heap.size) := Nat.le_trans (HAL2.out _ _).2.2 hg.size; rw [← HSM.out] at ho; have HO4 := Lib.hid ho; obtain ⟨u', c', rfl, -, -⟩ := ownK_form ho; clear ho hg hat hK))
     go_roundg (5 - 2)
     case measure => omega
     case rel => exact ⟨2, 2, u', _, c', by omega, by omega, by omega, by first | rfl | go_num, rfl, HO4.out, HB4.out, HP4.out⟩
    | false =>
     have HSM : Hid (sm (([⟨gCO, o.deny, o.wr⟩, ⟨gPR, 1, o.de⟩, ⟨gPR, 2, o.cn⟩, ⟨gPR, 3, o.cp⟩, ⟨gOA, 23, o.pr⟩] : List Ca).take 2) = sm (([⟨gCO, o.deny, o.wr⟩, ⟨gPR, 1, o.de⟩, ⟨gPR, 2, o.cn⟩, ⟨gPR, 3, o.cp⟩, ⟨gOA, 23, o.pr⟩] : List Ca).take 1)) := sm_out (([⟨gCO, o.deny, o.wr⟩, ⟨gPR, 1, o.de⟩, ⟨gPR, 2, o.cn⟩, ⟨gPR, 3, o.cp⟩, ⟨gOA, 23, o.pr⟩] : List Ca).take 1) (⟨gPR, 1, o.de⟩ : Ca) hc
     have HO4 : Hid (∀ o1, OwnK p (wr.alloc o1) (.slice u n c) (sm (([⟨gCO, o.deny, o.wr⟩, ⟨gPR, 1, o.de⟩, ⟨gPR, 2, o.cn⟩, ⟨gPR, 3, o.cp⟩, ⟨gOA, 23, o.pr⟩] : List Ca).take 2))) := fun o1 => by rw [HSM.out]; exact (HAL.out o1).1
     go_wp2
     go_roundg (5 - 2)
     case measure => omega
     case rel => exact ⟨2, 2, u, n, c, by omega, by omega, by omega, by first | rfl | go_num, rfl, HO4.out _, (HAL.out _).2, HPA.out _⟩
   ·obtain rfl : z = 2 := by omega
    clear hz
    have hix := idx_2 (.string { data := #[67, 79] }) (.int .i64 (o.deny)) (.int .i64 o.wr) (.string { data := #[80, 82] }) (.int .i64 (1)) (.int .i64 o.de) (.string { data := #[80, 82] }) (.int .i64 (2)) (.int .i64 o.cn) (.string { data := #[80, 82] }) (.int .i64 (3)) (.int .i64 o.cp) (.string { data := #[79, 65] }) (.int .i64 (23)) (.int .i64 o.pr)
    have HAL : Hid (∀ o1, OwnK p (wr.alloc o1) (.slice u n c) (sm (([⟨gCO, o.deny, o.wr⟩, ⟨gPR, 1, o.de⟩, ⟨gPR, 2, o.cn⟩, ⟨gPR, 3, o.cp⟩, ⟨gOA, 23, o.pr⟩] : List Ca).take 2)) ∧ Below p w (wr.alloc o1)) := fun o1 => ⟨ownK_far HO.out (below_alloc wr o1), HBn.out.trans ((below_alloc wr o1).mono HPn.out)⟩
    have HPA : Hid (∀ o1, p ≤ (wr.alloc o1).heap.size) := fun o1 => Nat.le_trans HPn.out (below_alloc wr o1).size
    have HAL2 : Hid (∀ o1 o2, OwnK p ((wr.alloc o1).alloc o2) (.slice u n c) (sm (([⟨gCO, o.deny, o.wr⟩, ⟨gPR, 1, o.de⟩, ⟨gPR, 2, o.cn⟩, ⟨gPR, 3, o.cp⟩, ⟨gOA, 23, o.pr⟩] : List Ca).take 2)) ∧ Below p w ((wr.alloc o1).alloc o2) ∧ p ≤ ((wr.alloc o1).alloc o2).heap.size) := fun o1 o2 => ⟨ownK_far (HAL.out o1).1 (below_alloc _ o2), (HAL.out o1).2.trans ((below_alloc _ o2).mono (HPA.out o1)), Nat.le_trans (HPA.out o1) (below_alloc _ o2).size⟩
    have HAN : Hid (∀ o1 cs, ((wr.alloc o1).alloc (.cells cs Tk)).heap[wr.heap.size + 1]? = some (.cells cs Tk (0, 0))) := fun o1 cs => by have := alloc_new (wr.alloc o1) cs Tk; rwa [show (wr.alloc o1).heap.size = wr.heap.size + 1 by simp] at this
    have HLN : Hid ((sm (([⟨gCO, o.deny, o.wr⟩, ⟨gPR, 1, o.de⟩, ⟨gPR, 2, o.cn⟩, ⟨gPR, 3, o.cp⟩, ⟨gOA, 23, o.pr⟩] : List Ca).take 2)).length ≤ 1000000) := Nat.le_trans (sm_len _) (Nat.le_trans (List.length_take_le _ _) (by omega))
    cases hc : (o.cn != 0) with
    | true =>
     have HSM : Hid (sm (([⟨gCO, o.deny, o.wr⟩, ⟨gPR, 1, o.de⟩, ⟨gPR, 2, o.cn⟩, ⟨gPR, 3, o.cp⟩, ⟨gOA, 23, o.pr⟩] : List Ca).take 3) = sm (([⟨gCO, o.deny, o.wr⟩, ⟨gPR, 1, o.de⟩, ⟨gPR, 2, o.cn⟩, ⟨gPR, 3, o.cp⟩, ⟨gOA, 23, o.pr⟩] : List Ca).take 2) ++ [(⟨gPR, 2, o.cn⟩ : Ca)]) := sm_in (([⟨gCO, o.deny, o.wr⟩, ⟨gPR, 1, o.de⟩, ⟨gPR, 2, o.cn⟩, ⟨gPR, 3, o.cp⟩, ⟨gOA, 23, o.pr⟩] : List Ca).take 2) (⟨gPR, 2, o.cn⟩ : Ca) hc
     go_wp2_with (first | (at_builtin; refine wpList_plain (by rfl) (fun K hK => ?_); refine wp_appK _ _ rfl p (.slice u n c) _ rfl (HAL2.out _ _).1 _ 1 (⟨gPR, 2, o.cn⟩ : Ca) rfl (HAN.out _ _) HLN.out (HAL2.out _ _).2.2 (fun v' w' ho hg hat => ?_); refine hK _ _ ?_; have HB4 : Hid (Below p w w') := grow_ok (HAL2.out _ _).1 hg (HAL2.out _ _).2.2 (HAL2.out _ _).2.1; have HP4 : Hid (p ≤ w'.heap.size) := Nat.le_trans (HAL2.out _ _).2.2 hg.size; rw [← HSM.out] at ho; have HO4 := Lib.hid ho; obtain ⟨u', c', rfl, -, -⟩ := ownK_form ho; clear ho hg hat hK))
     go_roundg (5 - 3)
     case measure => omega
     case rel => exact ⟨3, 3, u', _, c', by omega, by omega, by omega, by first | rfl | go_num, rfl, HO4.out, HB4.out, HP4.out⟩
    | false =>
     have HSM : Hid (sm (([⟨gCO, o.deny, o.wr⟩, ⟨gPR, 1, o.de⟩, ⟨gPR, 2, o.cn⟩, ⟨gPR, 3, o.cp⟩, ⟨gOA, 23, o.pr⟩] : List Ca).take 3) = sm (([⟨gCO, o.deny, o.wr⟩, ⟨gPR, 1, o.de⟩, ⟨gPR, 2, o.cn⟩, ⟨gPR, 3, o.cp⟩, ⟨gOA, 23, o.pr⟩] : List Ca).take 2)) := sm_out (([⟨gCO, o.deny, o.wr⟩, ⟨gPR, 1, o.de⟩, ⟨gPR, 2, o.cn⟩, ⟨gPR, 3, o.cp⟩, ⟨gOA, 23, o.pr⟩] : List Ca).take 2) (⟨gPR, 2, o.cn⟩ : Ca) hc
     have HO4 : Hid (∀ o1, OwnK p (wr.alloc o1) (.slice u n c) (sm (([⟨gCO, o.deny, o.wr⟩, ⟨gPR, 1, o.de⟩, ⟨gPR, 2, o.cn⟩, ⟨gPR, 3, o.cp⟩, ⟨gOA, 23, o.pr⟩] : List Ca).take 3))) := fun o1 => by rw [HSM.out]; exact (HAL.out o1).1
     go_wp2
     go_roundg (5 - 3)
     case measure => omega
     case rel => exact ⟨3, 3, u, n, c, by omega, by omega, by omega, by first | rfl | go_num, rfl, HO4.out _, (HAL.out _).2, HPA.out _⟩
   ·obtain rfl : z = 3 := by omega
    clear hz
    have hix := idx_3 (.string { data := #[67, 79] }) (.int .i64 (o.deny)) (.int .i64 o.wr) (.string { data := #[80, 82] }) (.int .i64 (1)) (.int .i64 o.de) (.string { data := #[80, 82] }) (.int .i64 (2)) (.int .i64 o.cn) (.string { data := #[80, 82] }) (.int .i64 (3)) (.int .i64 o.cp) (.string { data := #[79, 65] }) (.int .i64 (23)) (.int .i64 o.pr)
    have HAL : Hid (∀ o1, OwnK p (wr.alloc o1) (.slice u n c) (sm (([⟨gCO, o.deny, o.wr⟩, ⟨gPR, 1, o.de⟩, ⟨gPR, 2, o.cn⟩, ⟨gPR, 3, o.cp⟩, ⟨gOA, 23, o.pr⟩] : List Ca).take 3)) ∧ Below p w (wr.alloc o1)) := fun o1 => ⟨ownK_far HO.out (below_alloc wr o1), HBn.out.trans ((below_alloc wr o1).mono HPn.out)⟩
    have HPA : Hid (∀ o1, p ≤ (wr.alloc o1).heap.size) := fun o1 => Nat.le_trans HPn.out (below_alloc wr o1).size
    have HAL2 : Hid (∀ o1 o2, OwnK p ((wr.alloc o1).alloc o2) (.slice u n c) (sm (([⟨gCO, o.deny, o.wr⟩, ⟨gPR, 1, o.de⟩, ⟨gPR, 2, o.cn⟩, ⟨gPR, 3, o.cp⟩, ⟨gOA, 23, o.pr⟩] : List Ca).take 3)) ∧ Below p w ((wr.alloc o1).alloc o2) ∧ p ≤ ((wr.alloc o1).alloc o2).heap.size) := fun o1 o2 => ⟨ownK_far (HAL.out o1).1 (below_alloc _ o2), (HAL.out o1).2.trans ((below_alloc _ o2).mono (HPA.out o1)), Nat.le_trans (HPA.out o1) (below_alloc _ o2).size⟩
    have HAN : Hid (∀ o1 cs, ((wr.alloc o1).alloc (.cells cs Tk)).heap[wr.heap.size + 1]? = some (.cells cs Tk (0, 0))) := fun o1 cs => by have := alloc_new (wr.alloc o1) cs Tk; rwa [show (wr.alloc o1).heap.size = wr.heap.size + 1 by simp] at this
    have HLN : Hid ((sm (([⟨gCO, o.deny, o.wr⟩, ⟨gPR, 1, o.de⟩, ⟨gPR, 2, o.cn⟩, ⟨gPR, 3, o.cp⟩, ⟨gOA, 23, o.pr⟩] : List Ca).take 3)).length ≤ 1000000) := Nat.le_trans (sm_len _) (Nat.le_trans (List.length_take_le _ _) (by omega))
    cases hc : (o.cp != 0) with
    | true =>
     have HSM : Hid (sm (([⟨gCO, o.deny, o.wr⟩, ⟨gPR, 1, o.de⟩, ⟨gPR, 2, o.cn⟩, ⟨gPR, 3, o.cp⟩, ⟨gOA, 23, o.pr⟩] : List Ca).take 4) = sm (([⟨gCO, o.deny, o.wr⟩, ⟨gPR, 1, o.de⟩, ⟨gPR, 2, o.cn⟩, ⟨gPR, 3, o.cp⟩, ⟨gOA, 23, o.pr⟩] : List Ca).take 3) ++ [(⟨gPR, 3, o.cp⟩ : Ca)]) := sm_in (([⟨gCO, o.deny, o.wr⟩, ⟨gPR, 1, o.de⟩, ⟨gPR, 2, o.cn⟩, ⟨gPR, 3, o.cp⟩, ⟨gOA, 23, o.pr⟩] : List Ca).take 3) (⟨gPR, 3, o.cp⟩ : Ca) hc
     go_wp2_with (first | (at_builtin; refine wpList_plain (by rfl) (fun K hK => ?_); refine wp_appK _ _ rfl p (.slice u n c) _ rfl (HAL2.out _ _).1 _ 1 (⟨gPR, 3, o.cp⟩ : Ca) rfl (HAN.out _ _) HLN.out (HAL2.out _ _).2.2 (fun v' w' ho hg hat => ?_); refine hK _ _ ?_; have HB4 : Hid (Below p w w') := grow_ok (HAL2.out _ _).1 hg (HAL2.out _ _).2.2 (HAL2.out _ _).2.1; have HP4 : Hid (p ≤ w'.heap.size) := Nat.le_trans (HAL2.out _ _).2.2 hg.size; rw [← HSM.out] at ho; have HO4 := Lib.hid ho; obtain ⟨u', c', rfl, -, -⟩ := ownK_form ho; clear ho hg hat hK))
     go_roundg (5 - 4)
     case measure => omega
     case rel => exact ⟨4, 4, u', _, c', by omega, by omega, by omega, by first | rfl | go_num, rfl, HO4.out, HB4.out, HP4.out⟩
    | false =>
     have HSM : Hid (sm (([⟨gCO, o.deny, o.wr⟩, ⟨gPR, 1, o.de⟩, ⟨gPR, 2, o.cn⟩, ⟨gPR, 3, o.cp⟩, ⟨gOA, 23, o.pr⟩] : List Ca).take 4) = sm (([⟨gCO, o.deny, o.wr⟩, ⟨gPR, 1, o.de⟩, ⟨gPR, 2, o.cn⟩, ⟨gPR, 3, o.cp⟩, ⟨gOA, 23, o.pr⟩] : List Ca).take 3)) := sm_out (([⟨gCO, o.deny, o.wr⟩, ⟨gPR, 1, o.de⟩, ⟨gPR, 2, o.cn⟩, ⟨gPR, 3, o.cp⟩, ⟨gOA, 23, o.pr⟩] : List Ca).take 3) (⟨gPR, 3, o.cp⟩ : Ca) hc
     have HO4 : Hid (∀ o1, OwnK p (wr.alloc o1) (.slice u n c) (sm (([⟨gCO, o.deny, o.wr⟩, ⟨gPR, 1, o.de⟩, ⟨gPR, 2, o.cn⟩, ⟨gPR, 3, o.cp⟩, ⟨gOA, 23, o.pr⟩] : List Ca).take 4))) := fun o1 => by rw [HSM.out]; exact (HAL.out o1).1
     go_wp2
     go_roundg (5 - 4)
     case measure => omega
     case rel => exact ⟨4, 4, u, n, c, by omega, by omega, by omega, by first | rfl | go_num, rfl, HO4.out _, (HAL.out _).2, HPA.out _⟩
   ·obtain rfl : z = 4 := by omega
    clear hz
    have hix := idx_4 (.string { data := #[67, 79] }) (.int .i64 (o.deny)) (.int .i64 o.wr) (.string { data := #[80, 82] }) (.int .i64 (1)) (.int .i64 o.de) (.string { data := #[80, 82] }) (.int .i64 (2)) (.int .i64 o.cn) (.string { data := #[80, 82] }) (.int .i64 (3)) (.int .i64 o.cp) (.string { data := #[79, 65] }) (.int .i64 (23)) (.int .i64 o.pr)
    have HAL : Hid (∀ o1, OwnK p (wr.alloc o1) (.slice u n c) (sm (([⟨gCO, o.deny, o.wr⟩, ⟨gPR, 1, o.de⟩, ⟨gPR, 2, o.cn⟩, ⟨gPR, 3, o.cp⟩, ⟨gOA, 23, o.pr⟩] : List Ca).take 4)) ∧ Below p w (wr.alloc o1)) := fun o1 => ⟨ownK_far HO.out (below_alloc wr o1), HBn.out.trans ((below_alloc wr o1).mono HPn.out)⟩
    have HPA : Hid (∀ o1, p ≤ (wr.alloc o1).heap.size) := fun o1 => Nat.le_trans HPn.out (below_alloc wr o1).size
    have HAL2 : Hid (∀ o1 o2, OwnK p ((wr.alloc o1).alloc o2) (.slice u n c) (sm (([⟨gCO, o.deny, o.wr⟩, ⟨gPR, 1, o.de⟩, ⟨gPR, 2, o.cn⟩, ⟨gPR, 3, o.cp⟩, ⟨gOA, 23, o.pr⟩] : List Ca).take 4)) ∧ Below p w ((wr.alloc o1).alloc o2) ∧ p ≤ ((wr.alloc o1).alloc o2).heap.size) := fun o1 o2 => ⟨ownK_far (HAL.out o1).1 (below_alloc _ o2), (HAL.out o1).2.trans ((below_alloc _ o2).mono (HPA.out o1)), Nat.le_trans (HPA.out o1) (below_alloc _ o2).size⟩
    have HAN : Hid (∀ o1 cs, ((wr.alloc o1).alloc (.cells cs Tk)).heap[wr.heap.size + 1]? = some (.cells cs Tk (0, 0))) := fun o1 cs => by have := alloc_new (wr.alloc o1) cs Tk; rwa [show (wr.alloc o1).heap.size = wr.heap.size + 1 by simp] at this
    have HLN : Hid ((sm (([⟨gCO, o.deny, o.wr⟩, ⟨gPR, 1, o.de⟩, ⟨gPR, 2, o.cn⟩, ⟨gPR, 3, o.cp⟩, ⟨gOA, 23, o.pr⟩] : List Ca).take 4)).length ≤ 1000000) := Nat.le_trans (sm_len _) (Nat.le_trans (List.length_take_le _ _) (by omega))
    cases hc : (o.pr != 0) with
    | true =>
     have HSM : Hid (sm (([⟨gCO, o.deny, o.wr⟩, ⟨gPR, 1, o.de⟩, ⟨gPR, 2, o.cn⟩, ⟨gPR, 3, o.cp⟩, ⟨gOA, 23, o.pr⟩] : List Ca).take 5) = sm (([⟨gCO, o.deny, o.wr⟩, ⟨gPR, 1, o.de⟩, ⟨gPR, 2, o.cn⟩, ⟨gPR, 3, o.cp⟩, ⟨gOA, 23, o.pr⟩] : List Ca).take 4) ++ [(⟨gOA, 23, o.pr⟩ : Ca)]) := sm_in (([⟨gCO, o.deny, o.wr⟩, ⟨gPR, 1, o.de⟩, ⟨gPR, 2, o.cn⟩, ⟨gPR, 3, o.cp⟩, ⟨gOA, 23, o.pr⟩] : List Ca).take 4) (⟨gOA, 23, o.pr⟩ : Ca) hc
     go_wp2_with (first | (at_builtin; refine wpList_plain (by rfl) (fun K hK => ?_); refine wp_appK _ _ rfl p (.slice u n c) _ rfl (HAL2.out _ _).1 _ 1 (⟨gOA, 23, o.pr⟩ : Ca) rfl (HAN.out _ _) HLN.out (HAL2.out _ _).2.2 (fun v' w' ho hg hat => ?_); refine hK _ _ ?_; have HB4 : Hid (Below p w w') := grow_ok (HAL2.out _ _).1 hg (HAL2.out _ _).2.2 (HAL2.out _ _).2.1; have HP4 : Hid (p ≤ w'.heap.size) := Nat.le_trans (HAL2.out _ _).2.2 hg.size; rw [← HSM.out] at ho; have HO4 := Lib.hid ho; obtain ⟨u', c', rfl, -, -⟩ := ownK_form ho; clear ho hg hat hK))
     go_roundg (5 - 5)
     case measure => omega
     case rel => exact ⟨5, 5, u', _, c', by omega, by omega, by omega, by first | rfl | go_num, rfl, HO4.out, HB4.out, HP4.out⟩
    | false =>
     have HSM : Hid (sm (([⟨gCO, o.deny, o.wr⟩, ⟨gPR, 1, o.de⟩, ⟨gPR, 2, o.cn⟩, ⟨gPR, 3, o.cp⟩, ⟨gOA, 23, o.pr⟩] : List Ca).take 5) = sm (([⟨gCO, o.deny, o.wr⟩, ⟨gPR, 1, o.de⟩, ⟨gPR, 2, o.cn⟩, ⟨gPR, 3, o.cp⟩, ⟨gOA, 23, o.pr⟩] : List Ca).take 4)) := sm_out (([⟨gCO, o.deny, o.wr⟩, ⟨gPR, 1, o.de⟩, ⟨gPR, 2, o.cn⟩, ⟨gPR, 3, o.cp⟩, ⟨gOA, 23, o.pr⟩] : List Ca).take 4) (⟨gOA, 23, o.pr⟩ : Ca) hc
     have HO4 : Hid (∀ o1, OwnK p (wr.alloc o1) (.slice u n c) (sm (([⟨gCO, o.deny, o.wr⟩, ⟨gPR, 1, o.de⟩, ⟨gPR, 2, o.cn⟩, ⟨gPR, 3, o.cp⟩, ⟨gOA, 23, o.pr⟩] : List Ca).take 5))) := fun o1 => by rw [HSM.out]; exact (HAL.out o1).1
     go_wp2
     go_roundg (5 - 5)
     case measure => omega
     case rel => exact ⟨5, 5, u, n, c, by omega, by omega, by omega, by first | rfl | go_num, rfl, HO4.out _, (HAL.out _).2, HPA.out _⟩
   ·obtain rfl : z = 5 := by omega
    clear hz
    go_wp2
    go_ret
    exact ⟨_, rfl, by first | exact HO.out | (rw [hp]; exact HO.out), by first | exact HBn.out | (rw [hp]; exact HBn.out)⟩
end Go.Proofs.Ytpfpjbeofogbgaa.Sv
end
