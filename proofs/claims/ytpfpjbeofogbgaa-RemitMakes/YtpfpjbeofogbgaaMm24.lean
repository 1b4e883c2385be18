/-
  Texts put together (merge.py): VROne.
-/
import Derived.Deep.DeepCutAuto
import Derived.Test.YtpfpjbeofogbgaaMm10
set_option linter.unusedSimpArgs false
set_option linter.unusedVariables false
section
set_option maxRecDepth 100000
namespace Go.Proofs.Ytpfpjbeofogbgaa.Sv
open Go.RowKit
open Sh (Ot)
open Cm (Ln lnv)
open Bk (keepB below_alloc below_trans alloc_new heap_set heap_far)
theorem row5 {w : World} {q : Nat} {L : List Ca} {T : TypeId} (h : w.heap[q]? = some (.cells (kcs L).toArray T (0, 0))) (k : Nat) (x : Ca) (hx : L[k]? = some x) : CaCells w q (k * 3) x := by
 have e : ∀ i, i < 3 → w.cell? ⟨q, k * 3 + i, none⟩ = (kc x)[i]? := fun i hi => by
  rw [cell_of_row w q _ _ T (0, 0) h, List.getElem?_toArray]
  exact kcs_at L k x hx i hi
 exact ⟨e 0 (by omega), e 1 (by omega), e 2 (by omega)⟩
theorem below_tr {p : Nat} {a b c : World} (h : Below p a b) (k : Below b.heap.size b c) (hs : p ≤ b.heap.size) : Below p a c := h.trans (k.mono hs)
set_option maxHeartbeats 16000000 in
theorem rone_any (l : Ln) (ml : Value) (o : Ot) (w : World) (hml : ∃ a n c, ml = .slice a n c) :
  Calls Try.prog 53 #[lnv l ml, .agg (#[.int .i64 o.al, .int .i64 o.de, .int .i64 o.cp, .int .i64 o.cn, .int .i64 o.plan, .int .i64 o.wr, .int .i64 o.pr, .int .i64 o.deny] : Array Value)] w fun e w' => ∃ v', e = .returned (srv (oneV l o) v') ∧ OwnK (w.heap.size + 5) w' v' (casV o) ∧ Below w.heap.size w w' := by
 obtain ⟨am, nm, cm, rfl⟩ := hml
 have HB : Hid (Below w.heap.size w (((w.alloc (.cells (#[.string (mk l.proc), .slice am nm cm, .int .i64 l.date, .int .i64 l.units, .int .i64 l.billed, .int .i64 l.prior] : Array Value) 56)).alloc (.cells (#[.int .i64 o.al, .int .i64 o.de, .int .i64 o.cp, .int .i64 o.cn, .int .i64 o.plan, .int .i64 o.wr, .int .i64 o.pr, .int .i64 o.deny] : Array Value) 50)).alloc (.cells (#[.string { data := #[] }, .int .i64 0, .int .i64 0, .slice none 0 0] : Array Value) Ts))) := below_trans (below_trans (below_alloc w _) (below_alloc _ _)) (below_alloc _ _)
 have HX := Lib.hid (keepB (keepB (alloc_new w (#[.string (mk l.proc), .slice am nm cm, .int .i64 l.date, .int .i64 l.units, .int .i64 l.billed, .int .i64 l.prior] : Array Value) 56) (below_alloc _ (.cells (#[.int .i64 o.al, .int .i64 o.de, .int .i64 o.cp, .int .i64 o.cn, .int .i64 o.plan, .int .i64 o.wr, .int .i64 o.pr, .int .i64 o.deny] : Array Value) 50))) (below_alloc _ (.cells (#[.string { data := #[] }, .int .i64 0, .int .i64 0, .slice none 0 0] : Array Value) Ts)))
 have HY := Lib.hid (keepB (alloc_new (w.alloc (.cells (#[.string (mk l.proc), .slice am nm cm, .int .i64 l.date, .int .i64 l.units, .int .i64 l.billed, .int .i64 l.prior] : Array Value) 56)) (#[.int .i64 o.al, .int .i64 o.de, .int .i64 o.cp, .int .i64 o.cn, .int .i64 o.plan, .int .i64 o.wr, .int .i64 o.pr, .int .i64 o.deny] : Array Value) 50) (below_alloc _ (.cells (#[.string { data := #[] }, .int .i64 0, .int .i64 0, .slice none 0 0] : Array Value) Ts)))
 have HZ := Lib.hid (alloc_new ((w.alloc (.cells (#[.string (mk l.proc), .slice am nm cm, .int .i64 l.date, .int .i64 l.units, .int .i64 l.billed, .int .i64 l.prior] : Array Value) 56)).alloc (.cells (#[.int .i64 o.al, .int .i64 o.de, .int .i64 o.cp, .int .i64 o.cn, .int .i64 o.plan, .int .i64 o.wr, .int .i64 o.pr, .int .i64 o.deny] : Array Value) 50)) (#[.string { data := #[] }, .int .i64 0, .int .i64 0, .slice none 0 0] : Array Value) Ts)
 rw [show (w.alloc (.cells (#[.string (mk l.proc), .slice am nm cm, .int .i64 l.date, .int .i64 l.units, .int .i64 l.billed, .int .i64 l.prior] : Array Value) 56)).heap.size = w.heap.size + 1 by simp] at HY
 rw [show ((w.alloc (.cells (#[.string (mk l.proc), .slice am nm cm, .int .i64 l.date, .int .i64 l.units, .int .i64 l.billed, .int .i64 l.prior] : Array Value) 56)).alloc (.cells (#[.int .i64 o.al, .int .i64 o.de, .int .i64 o.cp, .int .i64 o.cn, .int .i64 o.plan, .int .i64 o.wr, .int .i64 o.pr, .int .i64 o.deny] : Array Value) 50)).heap.size = w.heap.size + 1 + 1 by simp] at HZ
 have HSZ : Hid ((((w.alloc (.cells (#[.string (mk l.proc), .slice am nm cm, .int .i64 l.date, .int .i64 l.units, .int .i64 l.billed, .int .i64 l.prior] : Array Value) 56)).alloc (.cells (#[.int .i64 o.al, .int .i64 o.de, .int .i64 o.cp, .int .i64 o.cn, .int .i64 o.plan, .int .i64 o.wr, .int .i64 o.pr, .int .i64 o.deny] : Array Value) 50)).alloc (.cells (#[.string { data := #[] }, .int .i64 0, .int .i64 0, .slice none 0 0] : Array Value) Ts)).heap.size = w.heap.size + 1 + 1 + 1) := by show _ = _; simp
 have hcv : casV o = sm (five o) := rfl
 have hone : oneV l o = ⟨l.proc, l.billed, o.plan, casV o⟩ := rfl
 rw [hone, hcv, five_eq]
 have HY0 : Hid ((o.deny = 0 → whyV o = 45) ∧ (o.deny ≠ 0 → whyV o = o.deny)) := ⟨fun h => if_pos h, fun h => if_neg h⟩
 clear hcv hone
 generalize whyV o = y at *
 go_enter Try.func53, Try.ntmps53
 go_upto_region 1 with fail
 generalize (((w.alloc (.cells (#[.string (mk l.proc), .slice am nm cm, .int .i64 l.date, .int .i64 l.units, .int .i64 l.billed, .int .i64 l.prior] : Array Value) 56)).alloc (.cells (#[.int .i64 o.al, .int .i64 o.de, .int .i64 o.cp, .int .i64 o.cn, .int .i64 o.plan, .int .i64 o.wr, .int .i64 o.pr, .int .i64 o.deny] : Array Value) 50)).alloc (.cells (#[.string { data := #[] }, .int .i64 0, .int .i64 0, .slice none 0 0] : Array Value) Ts)) = W at *
 generalize hp : w.heap.size = p at *
 obtain ⟨x0, x1, x2, x3, x4, x5⟩ := six HX.out
 obtain ⟨y0, y1, y2, y3, y4, y5, y6, y7⟩ := Sh.eight HY.out
 have HB1 : Hid (Below p w (W.alloc (.cells (#[.string (mk l.proc), .int .i64 l.billed, .int .i64 o.plan, .slice none 0 0] : Array Value) Ts))) := HB.out.trans ((below_alloc W _).mono (by have := HSZ.out; omega))
 have HX1 := Lib.hid (keepB HX.out (below_alloc W (.cells (#[.string (mk l.proc), .int .i64 l.billed, .int .i64 o.plan, .slice none 0 0] : Array Value) Ts)))
 have HY1 := Lib.hid (keepB HY.out (below_alloc W (.cells (#[.string (mk l.proc), .int .i64 l.billed, .int .i64 o.plan, .slice none 0 0] : Array Value) Ts)))
 have HZ1 := Lib.hid (keepB HZ.out (below_alloc W (.cells (#[.string (mk l.proc), .int .i64 l.billed, .int .i64 o.plan, .slice none 0 0] : Array Value) Ts)))
 have HS1 := Lib.hid (alloc_new W (#[.string (mk l.proc), .int .i64 l.billed, .int .i64 o.plan, .slice none 0 0] : Array Value) Ts)
 rw [HSZ.out] at HS1
 have HSZ1 : Hid ((W.alloc (.cells (#[.string (mk l.proc), .int .i64 l.billed, .int .i64 o.plan, .slice none 0 0] : Array Value) Ts)).heap.size = p + 1 + 1 + 1 + 1) := by show _ = _; have := HSZ.out; simp; omega
 have hWs := HSZ.out
 go_upto_region 2 with fail
 try rw [hWs]
 generalize W.alloc (.cells (#[.string (mk l.proc), .int .i64 l.billed, .int .i64 o.plan, .slice none 0 0] : Array Value) Ts) = W1 at *
 clear x0 x1 x2 x3 x4 x5 y0 y1 y2 y3 y4 y5 y6 y7 HX HY HZ HB HSZ hWs
 obtain ⟨y0, y1, y2, y3, y4, y5, y6, y7⟩ := Sh.eight HY1.out
 by_cases hd : o.deny = 0
 ·have hy := HY0.out.1 hd
  have hdb : (o.deny == 0) = true := by simpa using hd
  subst hy
  clear HY0 hd
  have HB2 : Hid (Below p w (W1.alloc (.cells (#[.string { data := #[67, 79] }, .int .i64 (45), .int .i64 o.wr, .string { data := #[80, 82] }, .int .i64 (1), .int .i64 o.de, .string { data := #[80, 82] }, .int .i64 (2), .int .i64 o.cn, .string { data := #[80, 82] }, .int .i64 (3), .int .i64 o.cp, .string { data := #[79, 65] }, .int .i64 (23), .int .i64 o.pr] : Array Value) Tk))) := below_tr HB1.out (below_alloc W1 _) (by have := HSZ1.out; omega)
  have HZ2 := Lib.hid (keepB HZ1.out (below_alloc W1 (.cells (#[.string { data := #[67, 79] }, .int .i64 (45), .int .i64 o.wr, .string { data := #[80, 82] }, .int .i64 (1), .int .i64 o.de, .string { data := #[80, 82] }, .int .i64 (2), .int .i64 o.cn, .string { data := #[80, 82] }, .int .i64 (3), .int .i64 o.cp, .string { data := #[79, 65] }, .int .i64 (23), .int .i64 o.pr] : Array Value) Tk)))
  have HS2 := Lib.hid (keepB HS1.out (below_alloc W1 (.cells (#[.string { data := #[67, 79] }, .int .i64 (45), .int .i64 o.wr, .string { data := #[80, 82] }, .int .i64 (1), .int .i64 o.de, .string { data := #[80, 82] }, .int .i64 (2), .int .i64 o.cn, .string { data := #[80, 82] }, .int .i64 (3), .int .i64 o.cp, .string { data := #[79, 65] }, .int .i64 (23), .int .i64 o.pr] : Array Value) Tk)))
  have HR2 : Hid ((W1.alloc (.cells (#[.string { data := #[67, 79] }, .int .i64 (45), .int .i64 o.wr, .string { data := #[80, 82] }, .int .i64 (1), .int .i64 o.de, .string { data := #[80, 82] }, .int .i64 (2), .int .i64 o.cn, .string { data := #[80, 82] }, .int .i64 (3), .int .i64 o.cp, .string { data := #[79, 65] }, .int .i64 (23), .int .i64 o.pr] : Array Value) Tk)).heap[p + 1 + 1 + 1 + 1]? = some (.cells (kcs ([⟨gCO, 45, o.wr⟩, ⟨gPR, 1, o.de⟩, ⟨gPR, 2, o.cn⟩, ⟨gPR, 3, o.cp⟩, ⟨gOA, 23, o.pr⟩] : List Ca)).toArray Tk (0, 0))) := by
   have := alloc_new W1 (#[.string { data := #[67, 79] }, .int .i64 (45), .int .i64 o.wr, .string { data := #[80, 82] }, .int .i64 (1), .int .i64 o.de, .string { data := #[80, 82] }, .int .i64 (2), .int .i64 o.cn, .string { data := #[80, 82] }, .int .i64 (3), .int .i64 o.cp, .string { data := #[79, 65] }, .int .i64 (23), .int .i64 o.pr] : Array Value) Tk
   rw [HSZ1.out] at this
   exact this
  have HSZ2 : Hid ((W1.alloc (.cells (#[.string { data := #[67, 79] }, .int .i64 (45), .int .i64 o.wr, .string { data := #[80, 82] }, .int .i64 (1), .int .i64 o.de, .string { data := #[80, 82] }, .int .i64 (2), .int .i64 o.cn, .string { data := #[80, 82] }, .int .i64 (3), .int .i64 o.cp, .string { data := #[79, 65] }, .int .i64 (23), .int .i64 o.pr] : Array Value) Tk)).heap.size = p + 5) := by show _ = _; have := HSZ1.out; simp; omega
  have hWs := HSZ1.out
  go_upto_region 6 with fail
  try rw [hWs]
  generalize (W1.alloc (.cells (#[.string { data := #[67, 79] }, .int .i64 (45), .int .i64 o.wr, .string { data := #[80, 82] }, .int .i64 (1), .int .i64 o.de, .string { data := #[80, 82] }, .int .i64 (2), .int .i64 o.cn, .string { data := #[80, 82] }, .int .i64 (3), .int .i64 o.cp, .string { data := #[79, 65] }, .int .i64 (23), .int .i64 o.pr] : Array Value) Tk)) = W2 at *
  clear y0 y1 y2 y3 y4 y5 y6 y7 hWs HB1 HX1 HY1 HZ1 HS1 HSZ1
  go_wp2
  go_loopg [8] 5 (fun gg t8 wr => ∃ (k : Nat) (u : Option Addr) (n c : Nat), k ≤ 5 ∧ gg = 5 - k ∧ t8 = .int .i64 k ∧ Hid (wr.heap[p + 1 + 1 + 1]? = some (.cells (#[.string (mk l.proc), .int .i64 l.billed, .int .i64 o.plan, .slice u n c] : Array Value) Ts (0, 0))) ∧ Hid (wr.heap[p + 1 + 1 + 1 + 1]? = some (.cells (kcs ([⟨gCO, 45, o.wr⟩, ⟨gPR, 1, o.de⟩, ⟨gPR, 2, o.cn⟩, ⟨gPR, 3, o.cp⟩, ⟨gOA, 23, o.pr⟩] : List Ca)).toArray Tk (0, 0))) ∧ Hid (wr.heap[p + 1 + 1]? = some (.cells (#[.string { data := #[] }, .int .i64 0, .int .i64 0, .slice none 0 0] : Array Value) Ts (0, 0))) ∧ Hid (OwnK (p + 5) wr (.slice u n c) (sm (([⟨gCO, 45, o.wr⟩, ⟨gPR, 1, o.de⟩, ⟨gPR, 2, o.cn⟩, ⟨gPR, 3, o.cp⟩, ⟨gOA, 23, o.pr⟩] : List Ca).take k))) ∧ Hid (Below p w wr) ∧ Hid (p + 5 ≤ wr.heap.size))
  case atStart => exact ⟨0, none, 0, 0, by omega, rfl, rfl, HS2.out, HR2.out, HZ2.out, ownK_nil _ _, HB2.out, Nat.le_of_eq HSZ2.out.symm⟩
  case round =>
   obtain ⟨k, u, n, c, hk, hg, rfl, HS, HR, HZ, HO, HBn, HPn⟩ := hrel
   obtain ⟨s0, s1, s2, s3⟩ := four HS.out
   by_cases hlt : k < 5
   ·have hltz : (k : Int) < 5 := by omega
    obtain ⟨x, hx⟩ : ∃ x, ([⟨gCO, 45, o.wr⟩, ⟨gPR, 1, o.de⟩, ⟨gPR, 2, o.cn⟩, ⟨gPR, 3, o.cp⟩, ⟨gOA, 23, o.pr⟩] : List Ca)[k]? = some x := ⟨_, List.getElem?_eq_getElem (by simpa using hlt)⟩
    have hc := row5 HR.out k x hx
    obtain ⟨c0, c1, c2⟩ := id hc
    have HTK : Hid (([⟨gCO, 45, o.wr⟩, ⟨gPR, 1, o.de⟩, ⟨gPR, 2, o.cn⟩, ⟨gPR, 3, o.cp⟩, ⟨gOA, 23, o.pr⟩] : List Ca).take (k + 1) = ([⟨gCO, 45, o.wr⟩, ⟨gPR, 1, o.de⟩, ⟨gPR, 2, o.cn⟩, ⟨gPR, 3, o.cp⟩, ⟨gOA, 23, o.pr⟩] : List Ca).take k ++ [x]) := by show _ = _; rw [List.take_add_one, hx]; rfl
    have HLN : Hid ((sm (([⟨gCO, 45, o.wr⟩, ⟨gPR, 1, o.de⟩, ⟨gPR, 2, o.cn⟩, ⟨gPR, 3, o.cp⟩, ⟨gOA, 23, o.pr⟩] : List Ca).take k)).length ≤ 1000000) := Nat.le_trans (sm_len _) (Nat.le_trans (List.length_take_le _ _) (by omega))
    clear hx
    cases hn : (x.ct != 0) with
    | false =>
     have HO4 : Hid (OwnK (p + 5) wr (.slice u n c) (sm (([⟨gCO, 45, o.wr⟩, ⟨gPR, 1, o.de⟩, ⟨gPR, 2, o.cn⟩, ⟨gPR, 3, o.cp⟩, ⟨gOA, 23, o.pr⟩] : List Ca).take (k + 1)))) := by rw [HTK.out, sm_out _ x hn]; exact HO.out
     go_wp2
     go_roundg (5 - (k + 1))
     case measure => omega
     case rel => exact ⟨k + 1, u, n, c, by omega, by omega, by first | rfl | go_num, HS.out, HR.out, HZ.out, HO4.out, HBn.out, HPn.out⟩
    | true =>
     have HSM : Hid (sm (([⟨gCO, 45, o.wr⟩, ⟨gPR, 1, o.de⟩, ⟨gPR, 2, o.cn⟩, ⟨gPR, 3, o.cp⟩, ⟨gOA, 23, o.pr⟩] : List Ca).take (k + 1)) = sm (([⟨gCO, 45, o.wr⟩, ⟨gPR, 1, o.de⟩, ⟨gPR, 2, o.cn⟩, ⟨gPR, 3, o.cp⟩, ⟨gOA, 23, o.pr⟩] : List Ca).take k) ++ [x]) := by show _ = _; rw [HTK.out]; exact sm_in _ x hn
     obtain ⟨wo, rfl⟩ : ∃ z, z = wr := ⟨_, rfl⟩
     have HXK : Hid (∀ W', Below wo.heap.size wo W' → W'.heap[p + 1 + 1 + 1]? = some (.cells (#[.string (mk l.proc), .int .i64 l.billed, .int .i64 o.plan, .slice u n c] : Array Value) Ts (0, 0)) ∧ CaCells W' (p + 1 + 1 + 1 + 1) (k * 3) x) := fun W' hW => ⟨keepB HS.out hW, hc.of (hW.block _ (World.block_lt_of_cell? wo _ hc.1))⟩
     have HD := Lib.hid (Below.drew (Below.refl wo.heap.size wo))
     clear hc
     go_upto_region 10 with fail
     refine Ri.wp_region_tailX 7 (by kernel_rfl) (by kernel_rfl) (by kernel_rfl) (by decide) (by kernel_rfl) (fun Wx => Below wo.heap.size wo Wx) (fun kz vs wz => (fun kx vx wx => match kx with | 0 => vx = .pointer (some ⟨(p + 1 + 1 + 1), 3, none⟩) | 1 => vx = .slice u n c | 2 => vx = .slice (some ⟨p + 1 + 1 + 1 + 1, 0, none⟩) 5 5 | 3 => vx = .int .i64 (k : Nat) | 4 => vx = .pointer (some ⟨(p + 1 + 1 + 1 + 1), k * 3, none⟩) | 5 => vx = .agg (cae x) | 6 => (∃ g : Nat, vx = .slice (some ⟨g, 0, none⟩) 1 1 ∧ wx.heap[g]? = some (.cells (cae x) Tk (0, 0))) | _ => True : Nat → Value → World → Prop) kz (vs kz) wz) (fun lst vs => True) (fun kz => [kz]) (by kernel_rfl) (fun jz vs iz vz wz hiz hz => Ri.loc_own (F := (fun kx vx wx => match kx with | 0 => vx = .pointer (some ⟨(p + 1 + 1 + 1), 3, none⟩) | 1 => vx = .slice u n c | 2 => vx = .slice (some ⟨p + 1 + 1 + 1 + 1, 0, none⟩) 5 5 | 3 => vx = .int .i64 (k : Nat) | 4 => vx = .pointer (some ⟨(p + 1 + 1 + 1 + 1), k * 3, none⟩) | 5 => vx = .agg (cae x) | 6 => (∃ g : Nat, vx = .slice (some ⟨g, 0, none⟩) 1 1 ∧ wx.heap[g]? = some (.cells (cae x) Tk (0, 0))) | _ => True : Nat → Value → World → Prop)) jz vs iz vz wz hiz hz) HD.out ?_ ⟨⟨rfl, ?_⟩, ⟨rfl, ?_⟩, ⟨rfl, ?_⟩, ⟨rfl, ?_⟩, ⟨rfl, ?_⟩, ⟨rfl, ?_⟩, ⟨rfl, ?_⟩, trivial⟩ ?_
     ·intro vs hvs
      exact trivial
     ·intro vs Wx A lst hA hB hls hX hno hpre K hK
      have e5 := (hA 5).trans (show _ = Value.pointer (some ⟨(p + 1 + 1 + 1), 0, none⟩) by kernel_rfl)
      clear hA hpre
      go_simp
      first | exact hK _ _ hB (by trivial) (fun _ _ h => h) hX | (rw [if_neg (by omega)]; go_simp; exact hK _ _ hB rfl (fun _ _ h => h) hX)
     ·intro vs Wx A lst hA hB hls hX hno hpre K hK
      have e49 := ((hA 49).trans (show _ = vs 0 by kernel_rfl)).trans (by repeat first | exact hpre.1 rfl | replace hpre := hpre.2)
      obtain ⟨hsx, ⟨c0, c1, c2⟩⟩ := HXK.out Wx hB
      obtain ⟨s0, s1, s2, s3⟩ := four hsx
      clear hsx
      clear hA hpre
      go_simp
      first | exact hK _ _ hB (by trivial) (fun _ _ h => h) hX | (rw [if_neg (by omega)]; go_simp; exact hK _ _ hB rfl (fun _ _ h => h) hX)
     ·intro vs Wx A lst hA hB hls hX hno hpre K hK
      have e7 := (hA 7).trans (show _ = Value.slice (some ⟨p + 1 + 1 + 1 + 1, 0, none⟩) 5 5 by kernel_rfl)
      clear hA hpre
      go_simp
      first | exact hK _ _ hB (by trivial) (fun _ _ h => h) hX | (rw [if_neg (by omega)]; go_simp; exact hK _ _ hB rfl (fun _ _ h => h) hX)
     ·intro vs Wx A lst hA hB hls hX hno hpre K hK
      have e8 := (hA 8).trans (show _ = Value.int .i64 (k : Nat) by kernel_rfl)
      clear hA hpre
      go_simp
      first | exact hK _ _ hB (by trivial) (fun _ _ h => h) hX | (rw [if_neg (by omega)]; go_simp; exact hK _ _ hB rfl (fun _ _ h => h) hX)
     ·intro vs Wx A lst hA hB hls hX hno hpre K hK
      have e51 := ((hA 51).trans (show _ = vs 2 by kernel_rfl)).trans (by repeat first | exact hpre.1 rfl | replace hpre := hpre.2)
      have e52 := ((hA 52).trans (show _ = vs 3 by kernel_rfl)).trans (by repeat first | exact hpre.1 rfl | replace hpre := hpre.2)
      clear hA hpre
      go_simp
      first | exact hK _ _ hB (by trivial) (fun _ _ h => h) hX | (rw [if_neg (by omega)]; go_simp; exact hK _ _ hB rfl (fun _ _ h => h) hX)
     ·intro vs Wx A lst hA hB hls hX hno hpre K hK
      have e53 := ((hA 53).trans (show _ = vs 4 by kernel_rfl)).trans (by repeat first | exact hpre.1 rfl | replace hpre := hpre.2)
      obtain ⟨hsx, ⟨c0, c1, c2⟩⟩ := HXK.out Wx hB
      obtain ⟨s0, s1, s2, s3⟩ := four hsx
      clear hsx
      clear hA hpre
      go_simp
      first | exact hK _ _ hB (by trivial) (fun _ _ h => h) hX | (rw [if_neg (by omega)]; go_simp; exact hK _ _ hB rfl (fun _ _ h => h) hX)
     ·intro vs Wx A lst hA hB hls hX hno hpre K hK
      have e54 := ((hA 54).trans (show _ = vs 5 by kernel_rfl)).trans (by repeat first | exact hpre.1 rfl | replace hpre := hpre.2)
      clear hA hpre
      go_simp
      refine hK _ _ (below_trans hB (below_alloc Wx _)) ⟨_, rfl, heap_alloc_new Wx _⟩ (fun jz hj hz => ?_) hX
      match jz, hj, hz with
      | 0, _, hz => exact hz
      | 1, _, hz => exact hz
      | 2, _, hz => exact hz
      | 3, _, hz => exact hz
      | 4, _, hz => exact hz
      | 5, _, hz => exact hz
      | 6, hj, _ => exact absurd rfl hj
      | n + 7, _, hz => exact hz
     ·intro vs Wx lst hall hX hB hF
      refine fun A7 hA K7 hK7 => ?_
      have e50 := ((hA 50).trans (show _ = vs 1 by kernel_rfl)).trans (hF 1 (by decide))
      have e55 := (hA 55).trans (show _ = vs 6 by kernel_rfl)
      clear hA
      obtain ⟨g, ea, hgc⟩ := hF 6 (by decide)
      rw [ea] at e55
      have hso : OwnK (p + 5) Wx (.slice u n c) (sm (([⟨gCO, 45, o.wr⟩, ⟨gPR, 1, o.de⟩, ⟨gPR, 2, o.cn⟩, ⟨gPR, 3, o.cp⟩, ⟨gOA, 23, o.pr⟩] : List Ca).take k)) := ownK_far HO.out hB
      have hps : p + 5 ≤ Wx.heap.size := Nat.le_trans HPn.out hB.size
      have hhx := (HXK.out Wx hB).1
      have hbx : Below p w Wx := HBn.out.trans (hB.mono (by have := HPn.out; omega))
      have hzx := keepB HZ.out hB
      have hrx := keepB HR.out hB
      refine wp_appK _ _ rfl (p + 5) (.slice u n c) _ (by first | exact e50 | simpa [Act.eval] using e50) hso g 1 x (by first | exact e55 | simpa [Act.eval] using e55) hgc HLN.out hps ?_
      intro v7 w7 hown hgr hat
      rw [← HSM.out] at hown
      have hlow := growK_low hso hgr hps
      have HO7 := Lib.hid hown
      have HH7 : Hid (w7.heap[p + 1 + 1 + 1]? = some (.cells (#[.string (mk l.proc), .int .i64 l.billed, .int .i64 o.plan, .slice u n c] : Array Value) Ts (0, 0))) := (hlow.block (p + 1 + 1 + 1) (by omega)).trans hhx
      have HR7 : Hid (w7.heap[p + 1 + 1 + 1 + 1]? = some (.cells (kcs ([⟨gCO, 45, o.wr⟩, ⟨gPR, 1, o.de⟩, ⟨gPR, 2, o.cn⟩, ⟨gPR, 3, o.cp⟩, ⟨gOA, 23, o.pr⟩] : List Ca)).toArray Tk (0, 0))) := (hlow.block (p + 1 + 1 + 1 + 1) (by omega)).trans hrx
      have HZ7 : Hid (w7.heap[p + 1 + 1]? = some (.cells (#[.string { data := #[] }, .int .i64 0, .int .i64 0, .slice none 0 0] : Array Value) Ts (0, 0))) := (hlow.block (p + 1 + 1) (by omega)).trans hzx
      have HB7 : Hid (Below p w w7) := hbx.trans (hlow.mono (by omega))
      have HP7 : Hid (p + 5 ≤ w7.heap.size) := Nat.le_trans hps hgr.size
      obtain ⟨u7, c7, e7v, -, -⟩ := ownK_form hown
      generalize hn7 : (sm (([⟨gCO, 45, o.wr⟩, ⟨gPR, 1, o.de⟩, ⟨gPR, 2, o.cn⟩, ⟨gPR, 3, o.cp⟩, ⟨gOA, 23, o.pr⟩] : List Ca).take (k + 1))).length = n7 at *
      subst e7v
      clear hown hgr hat hso hhx hbx hzx hrx hlow e50 e55 hgc
      refine hK7 _ _ ?_
      refine fun A8 hA K8 hK8 => ?_
      have e5 := (hA 5).trans (show _ = Value.pointer (some ⟨(p + 1 + 1 + 1), 0, none⟩) by kernel_rfl)
      clear hA
      go_simp
      refine hK8 _ _ ?_
      refine fun A9 hA K9 hK9 => ?_
      have e57 := (hA 57).trans (show _ = Value.pointer (some ⟨(p + 1 + 1 + 1), 3, none⟩) by kernel_rfl)
      have e56 := (hA 56).trans (show _ = Value.slice u7 n7 c7 by kernel_rfl)
      clear hA
      obtain ⟨q0, q1, q2, q3⟩ := four HH7.out
      obtain ⟨f0, f1, f2, f3⟩ := frz4 HH7.out
      have HS9 : Hid ((w7.setCell ⟨p + 1 + 1 + 1, 3, none⟩ (.slice u7 n7 c7)).heap[p + 1 + 1 + 1]? = some (.cells (#[.string (mk l.proc), .int .i64 l.billed, .int .i64 o.plan, (.slice u7 n7 c7)] : Array Value) Ts (0, 0))) := (by have := heap_set HH7.out 3 (.slice u7 n7 c7); show _ = _; rw [this]; rfl)
      have HR9 : Hid ((w7.setCell ⟨p + 1 + 1 + 1, 3, none⟩ (.slice u7 n7 c7)).heap[p + 1 + 1 + 1 + 1]? = some (.cells (kcs ([⟨gCO, 45, o.wr⟩, ⟨gPR, 1, o.de⟩, ⟨gPR, 2, o.cn⟩, ⟨gPR, 3, o.cp⟩, ⟨gOA, 23, o.pr⟩] : List Ca)).toArray Tk (0, 0))) := heap_far HR7.out (by omega)
      have HZ9 : Hid ((w7.setCell ⟨p + 1 + 1 + 1, 3, none⟩ (.slice u7 n7 c7)).heap[p + 1 + 1]? = some (.cells (#[.string { data := #[] }, .int .i64 0, .int .i64 0, .slice none 0 0] : Array Value) Ts (0, 0))) := heap_far HZ7.out (by omega)
      have HO9 : Hid (OwnK (p + 5) (w7.setCell ⟨p + 1 + 1 + 1, 3, none⟩ (.slice u7 n7 c7)) (.slice u7 n7 c7) (sm (([⟨gCO, 45, o.wr⟩, ⟨gPR, 1, o.de⟩, ⟨gPR, 2, o.cn⟩, ⟨gPR, 3, o.cp⟩, ⟨gOA, 23, o.pr⟩] : List Ca).take (k + 1)))) := ⟨HO7.out.1, HO7.out.2.imp id (by rintro ⟨g, cap, cur, e, h0, hh, hr⟩; exact ⟨g, cap, cur, e, h0, heap_far hh (by omega), hr⟩)⟩
      have HB9 : Hid (Below p w (w7.setCell ⟨p + 1 + 1 + 1, 3, none⟩ (.slice u7 n7 c7))) := HB7.out.setCell (p := ⟨p + 1 + 1 + 1, 3, none⟩) (show p ≤ p + 1 + 1 + 1 by omega) _
      have HP9 : Hid (p + 5 ≤ (w7.setCell ⟨p + 1 + 1 + 1, 3, none⟩ (.slice u7 n7 c7)).heap.size) := by show _ ≤ _; simpa using HP7.out
      go_simp
      refine hK9 undef _ ?_
      clear q0 q1 q2 q3 f0 f1 f2 f3 HO7 HH7 HR7 HZ7 HB7 HP7
      clear hX hall hF hB
      simp only [Ri.Tail, Ri.puts]
      go_simp
      generalize (w7.setCell ⟨p + 1 + 1 + 1, 3, none⟩ (.slice u7 n7 c7)) = WF at *
      go_wp2
      go_roundg (5 - (k + 1))
      case measure => omega
      case rel => exact ⟨k + 1, u7, n7, c7, by omega, by omega, by first | rfl | go_num, HS9.out, HR9.out, HZ9.out, HO9.out, HB9.out, HP9.out⟩
   ·have hltz : ¬ (k : Int) < 5 := by omega
    have hk5 : k = 5 := by omega
    subst hk5
    obtain ⟨z0, z1, z2, z3⟩ := four HZ.out
    obtain ⟨f0, f1, f2, f3⟩ := frz4 HZ.out
    go_wp2
    have HNA := Lib.hid (put4_heap HZ.out (.string (mk l.proc)) (.int .i64 l.billed) (.int .i64 o.plan) (.slice u n c))
    have HBP := Lib.hid (put4_below HBn.out (p + 1 + 1) (by omega) (.string (mk l.proc)) (.int .i64 l.billed) (.int .i64 o.plan) (.slice u n c))
    have HOA := Lib.hid (ownK_set HO.out (show p + 1 + 1 < p + 5 by omega) (.string (mk l.proc)) (.int .i64 l.billed) (.int .i64 o.plan) (.slice u n c))
    generalize ((((wr.setCell ⟨p + 1 + 1, 0, none⟩ (.string (mk l.proc))).setCell ⟨p + 1 + 1, 1, none⟩ (.int .i64 l.billed)).setCell ⟨p + 1 + 1, 2, none⟩ (.int .i64 o.plan)).setCell ⟨p + 1 + 1, 3, none⟩ (.slice u n c)) = WF at *
    obtain ⟨n0, n1, n2, n3⟩ := four HNA.out
    refine bodyPost_ret (v := srv ⟨l.proc, l.billed, o.plan, sm ([⟨gCO, 45, o.wr⟩, ⟨gPR, 1, o.de⟩, ⟨gPR, 2, o.cn⟩, ⟨gPR, 3, o.cp⟩, ⟨gOA, 23, o.pr⟩] : List Ca)⟩ (.slice u n c)) (by simp [results, Try.results53, go_sem, n0, n1, n2, n3]) rfl ?_
    exact ⟨_, rfl, by first | exact HOA.out | (rw [hp]; exact HOA.out), by first | exact HBP.out | (rw [hp]; exact HBP.out)⟩
 ·have hy := HY0.out.2 hd
  have hdb : (o.deny == 0) = false := by simpa using hd
  subst hy
  clear HY0 hd
  have HB2 : Hid (Below p w (W1.alloc (.cells (#[.string { data := #[67, 79] }, .int .i64 (o.deny), .int .i64 o.wr, .string { data := #[80, 82] }, .int .i64 (1), .int .i64 o.de, .string { data := #[80, 82] }, .int .i64 (2), .int .i64 o.cn, .string { data := #[80, 82] }, .int .i64 (3), .int .i64 o.cp, .string { data := #[79, 65] }, .int .i64 (23), .int .i64 o.pr] : Array Value) Tk))) := below_tr HB1.out (below_alloc W1 _) (by have := HSZ1.out; omega)
  have HZ2 := Lib.hid (keepB HZ1.out (below_alloc W1 (.cells (#[.string { data := #[67, 79] }, .int .i64 (o.deny), .int .i64 o.wr, .string { data := #[80, 82] }, .int .i64 (1), .int .i64 o.de, .string { data := #[80, 82] }, .int .i64 (2), .int .i64 o.cn, .string { data := #[80, 82] }, .int .i64 (3), .int .i64 o.cp, .string { data := #[79, 65] }, .int .i64 (23), .int .i64 o.pr] : Array Value) Tk)))
  have HS2 := Lib.hid (keepB HS1.out (below_alloc W1 (.cells (#[.string { data := #[67, 79] }, .int .i64 (o.deny), .int .i64 o.wr, .string { data := #[80, 82] }, .int .i64 (1), .int .i64 o.de, .string { data := #[80, 82] }, .int .i64 (2), .int .i64 o.cn, .string { data := #[80, 82] }, .int .i64 (3), .int .i64 o.cp, .string { data := #[79, 65] }, .int .i64 (23), .int .i64 o.pr] : Array Value) Tk)))
  have HR2 : Hid ((W1.alloc (.cells (#[.string { data := #[67, 79] }, .int .i64 (o.deny), .int .i64 o.wr, .string { data := #[80, 82] }, .int .i64 (1), .int .i64 o.de, .string { data := #[80, 82] }, .int .i64 (2), .int .i64 o.cn, .string { data := #[80, 82] }, .int .i64 (3), .int .i64 o.cp, .string { data := #[79, 65] }, .int .i64 (23), .int .i64 o.pr] : Array Value) Tk)).heap[p + 1 + 1 + 1 + 1]? = some (.cells (kcs ([⟨gCO, o.deny, o.wr⟩, ⟨gPR, 1, o.de⟩, ⟨gPR, 2, o.cn⟩, ⟨gPR, 3, o.cp⟩, ⟨gOA, 23, o.pr⟩] : List Ca)).toArray Tk (0, 0))) := by
   have := alloc_new W1 (#[.string { data := #[67, 79] }, .int .i64 (o.deny), .int .i64 o.wr, .string { data := #[80, 82] }, .int .i64 (1), .int .i64 o.de, .string { data := #[80, 82] }, .int .i64 (2), .int .i64 o.cn, .string { data := #[80, 82] }, .int .i64 (3), .int .i64 o.cp, .string { data := #[79, 65] }, .int .i64 (23), .int .i64 o.pr] : Array Value) Tk
   rw [HSZ1.out] at this
   exact this
  have HSZ2 : Hid ((W1.alloc (.cells (#[.string { data := #[67, 79] }, .int .i64 (o.deny), .int .i64 o.wr, .string { data := #[80, 82] }, .int .i64 (1), .int .i64 o.de, .string { data := #[80, 82] }, .int .i64 (2), .int .i64 o.cn, .string { data := #[80, 82] }, .int .i64 (3), .int .i64 o.cp, .string { data := #[79, 65] }, .int .i64 (23), .int .i64 o.pr] : Array Value) Tk)).heap.size = p + 5) := by show _ = _; have := HSZ1.out; simp; omega
  have hWs := HSZ1.out
  go_upto_region 6 with fail
  try rw [hWs]
  generalize (W1.alloc (.cells (#[.string { data := #[67, 79] }, .int .i64 (o.deny), .int .i64 o.wr, .string { data := #[80, 82] }, .int .i64 (1), .int .i64 o.de, .string { data := #[80, 82] }, .int .i64 (2), .int .i64 o.cn, .string { data := #[80, 82] }, .int .i64 (3), .int .i64 o.cp, .string { data := #[79, 65] }, .int .i64 (23), .int .i64 o.pr] : Array Value) Tk)) = W2 at *
  clear y0 y1 y2 y3 y4 y5 y6 y7 hWs HB1 HX1 HY1 HZ1 HS1 HSZ1
  go_wp2
  go_loopg [8] 5 (fun gg t8 wr => ∃ (k : Nat) (u : Option Addr) (n c : Nat), k ≤ 5 ∧ gg = 5 - k ∧ t8 = .int .i64 k ∧ Hid (wr.heap[p + 1 + 1 + 1]? = some (.cells (#[.string (mk l.proc), .int .i64 l.billed, .int .i64 o.plan, .slice u n c] : Array Value) Ts (0, 0))) ∧ Hid (wr.heap[p + 1 + 1 + 1 + 1]? = some (.cells (kcs ([⟨gCO, o.deny, o.wr⟩, ⟨gPR, 1, o.de⟩, ⟨gPR, 2, o.cn⟩, ⟨gPR, 3, o.cp⟩, ⟨gOA, 23, o.pr⟩] : List Ca)).toArray Tk (0, 0))) ∧ Hid (wr.heap[p + 1 + 1]? = some (.cells (#[.string { data := #[] }, .int .i64 0, .int .i64 0, .slice none 0 0] : Array Value) Ts (0, 0))) ∧ Hid (OwnK (p + 5) wr (.slice u n c) (sm (([⟨gCO, o.deny, o.wr⟩, ⟨gPR, 1, o.de⟩, ⟨gPR, 2, o.cn⟩, ⟨gPR, 3, o.cp⟩, ⟨gOA, 23, o.pr⟩] : List Ca).take k))) ∧ Hid (Below p w wr) ∧ Hid (p + 5 ≤ wr.heap.size))
  case atStart => exact ⟨0, none, 0, 0, by omega, rfl, rfl, HS2.out, HR2.out, HZ2.out, ownK_nil _ _, HB2.out, Nat.le_of_eq HSZ2.out.symm⟩
  case round =>
   obtain ⟨k, u, n, c, hk, hg, rfl, HS, HR, HZ, HO, HBn, HPn⟩ := hrel
   obtain ⟨s0, s1, s2, s3⟩ := four HS.out
   by_cases hlt : k < 5
   ·have hltz : (k : Int) < 5 := by omega
    obtain ⟨x, hx⟩ : ∃ x, ([⟨gCO, o.deny, o.wr⟩, ⟨gPR, 1, o.de⟩, ⟨gPR, 2, o.cn⟩, ⟨gPR, 3, o.cp⟩, ⟨gOA, 23, o.pr⟩] : List Ca)[k]? = some x := ⟨_, List.getElem?_eq_getElem (by simpa using hlt)⟩
    have hc := row5 HR.out k x hx
    obtain ⟨c0, c1, c2⟩ := id hc
    have HTK : Hid (([⟨gCO, o.deny, o.wr⟩, ⟨gPR, 1, o.de⟩, ⟨gPR, 2, o.cn⟩, ⟨gPR, 3, o.cp⟩, ⟨gOA, 23, o.pr⟩] : List Ca).take (k + 1) = ([⟨gCO, o.deny, o.wr⟩, ⟨gPR, 1, o.de⟩, ⟨gPR, 2, o.cn⟩, ⟨gPR, 3, o.cp⟩, ⟨gOA, 23, o.pr⟩] : List Ca).take k ++ [x]) := by show _ = _; rw [List.take_add_one, hx]; rfl
    have HLN : Hid ((sm (([⟨gCO, o.deny, o.wr⟩, ⟨gPR, 1, o.de⟩, ⟨gPR, 2, o.cn⟩, ⟨gPR, 3, o.cp⟩, ⟨gOA, 23, o.pr⟩] : List Ca).take k)).length ≤ 1000000) := Nat.le_trans (sm_len _) (Nat.le_trans (List.length_take_le _ _) (by omega))
    clear hx
    cases hn : (x.ct != 0) with
    | false =>
     have HO4 : Hid (OwnK (p + 5) wr (.slice u n c) (sm (([⟨gCO, o.deny, o.wr⟩, ⟨gPR, 1, o.de⟩, ⟨gPR, 2, o.cn⟩, ⟨gPR, 3, o.cp⟩, ⟨gOA, 23, o.pr⟩] : List Ca).take (k + 1)))) := by rw [HTK.out, sm_out _ x hn]; exact HO.out
     go_wp2
     go_roundg (5 - (k + 1))
     case measure => omega
     case rel => exact ⟨k + 1, u, n, c, by omega, by omega, by first | rfl | go_num, HS.out, HR.out, HZ.out, HO4.out, HBn.out, HPn.out⟩
    | true =>
     have HSM : Hid (sm (([⟨gCO, o.deny, o.wr⟩, ⟨gPR, 1, o.de⟩, ⟨gPR, 2, o.cn⟩, ⟨gPR, 3, o.cp⟩, ⟨gOA, 23, o.pr⟩] : List Ca).take (k + 1)) = sm (([⟨gCO, o.deny, o.wr⟩, ⟨gPR, 1, o.de⟩, ⟨gPR, 2, o.cn⟩, ⟨gPR, 3, o.cp⟩, ⟨gOA, 23, o.pr⟩] : List Ca).take k) ++ [x]) := by show _ = _; rw [HTK.out]; exact sm_in _ x hn
     obtain ⟨wo, rfl⟩ : ∃ z, z = wr := ⟨_, rfl⟩
     have HXK : Hid (∀ W', Below wo.heap.size wo W' → W'.heap[p + 1 + 1 + 1]? = some (.cells (#[.string (mk l.proc), .int .i64 l.billed, .int .i64 o.plan, .slice u n c] : Array Value) Ts (0, 0)) ∧ CaCells W' (p + 1 + 1 + 1 + 1) (k * 3) x) := fun W' hW => ⟨keepB HS.out hW, hc.of (hW.block _ (World.block_lt_of_cell? wo _ hc.1))⟩
     have HD := Lib.hid (Below.drew (Below.refl wo.heap.size wo))
     clear hc
     go_upto_region 10 with fail
     refine Ri.wp_region_tailX 7 (by kernel_rfl) (by kernel_rfl) (by kernel_rfl) (by decide) (by kernel_rfl) (fun Wx => Below wo.heap.size wo Wx) (fun kz vs wz => (fun kx vx wx => match kx with | 0 => vx = .pointer (some ⟨(p + 1 + 1 + 1), 3, none⟩) | 1 => vx = .slice u n c | 2 => vx = .slice (some ⟨p + 1 + 1 + 1 + 1, 0, none⟩) 5 5 | 3 => vx = .int .i64 (k : Nat) | 4 => vx = .pointer (some ⟨(p + 1 + 1 + 1 + 1), k * 3, none⟩) | 5 => vx = .agg (cae x) | 6 => (∃ g : Nat, vx = .slice (some ⟨g, 0, none⟩) 1 1 ∧ wx.heap[g]? = some (.cells (cae x) Tk (0, 0))) | _ => True : Nat → Value → World → Prop) kz (vs kz) wz) (fun lst vs => True) (fun kz => [kz]) (by kernel_rfl) (fun jz vs iz vz wz hiz hz => Ri.loc_own (F := (fun kx vx wx => match kx with | 0 => vx = .pointer (some ⟨(p + 1 + 1 + 1), 3, none⟩) | 1 => vx = .slice u n c | 2 => vx = .slice (some ⟨p + 1 + 1 + 1 + 1, 0, none⟩) 5 5 | 3 => vx = .int .i64 (k : Nat) | 4 => vx = .pointer (some ⟨(p + 1 + 1 + 1 + 1), k * 3, none⟩) | 5 => vx = .agg (cae x) | 6 => (∃ g : Nat, vx = .slice (some ⟨g, 0, none⟩) 1 1 ∧ wx.heap[g]? = some (.cells (cae x) Tk (0, 0))) | _ => True : Nat → Value → World → Prop)) jz vs iz vz wz hiz hz) HD.out ?_ ⟨⟨rfl, ?_⟩, ⟨rfl, ?_⟩, ⟨rfl, ?_⟩, ⟨rfl, ?_⟩, ⟨rfl, ?_⟩, ⟨rfl, ?_⟩, ⟨rfl, ?_⟩, trivial⟩ ?_
     ·intro vs hvs
      exact trivial
     ·intro vs Wx A lst hA hB hls hX hno hpre K hK
      have e5 := (hA 5).trans (show _ = Value.pointer (some ⟨(p + 1 + 1 + 1), 0, none⟩) by kernel_rfl)
      clear hA hpre
      go_simp
      first | exact hK _ _ hB (by trivial) (fun _ _ h => h) hX | (rw [if_neg (by omega)]; go_simp; exact hK _ _ hB rfl (fun _ _ h => h) hX)
     ·intro vs Wx A lst hA hB hls hX hno hpre K hK
      have e49 := ((hA 49).trans (show _ = vs 0 by kernel_rfl)).trans (by repeat first | exact hpre.1 rfl | replace hpre := hpre.2)
      obtain ⟨hsx, ⟨c0, c1, c2⟩⟩ := HXK.out Wx hB
      obtain ⟨s0, s1, s2, s3⟩ := four hsx
      clear hsx
      clear hA hpre
      go_simp
      first | exact hK _ _ hB (by trivial) (fun _ _ h => h) hX | (rw [if_neg (by omega)]; go_simp; exact hK _ _ hB rfl (fun _ _ h => h) hX)
     ·intro vs Wx A lst hA hB hls hX hno hpre K hK
      have e7 := (hA 7).trans (show _ = Value.slice (some ⟨p + 1 + 1 + 1 + 1, 0, none⟩) 5 5 by kernel_rfl)
      clear hA hpre
      go_simp
      first | exact hK _ _ hB (by trivial) (fun _ _ h => h) hX | (rw [if_neg (by omega)]; go_simp; exact hK _ _ hB rfl (fun _ _ h => h) hX)
     ·intro vs Wx A lst hA hB hls hX hno hpre K hK
      have e8 := (hA 8).trans (show _ = Value.int .i64 (k : Nat) by kernel_rfl)
      clear hA hpre
      go_simp
      first | exact hK _ _ hB (by trivial) (fun _ _ h => h) hX | (rw [if_neg (by omega)]; go_simp; exact hK _ _ hB rfl (fun _ _ h => h) hX)
     ·intro vs Wx A lst hA hB hls hX hno hpre K hK
      have e51 := ((hA 51).trans (show _ = vs 2 by kernel_rfl)).trans (by repeat first | exact hpre.1 rfl | replace hpre := hpre.2)
      have e52 := ((hA 52).trans (show _ = vs 3 by kernel_rfl)).trans (by repeat first | exact hpre.1 rfl | replace hpre := hpre.2)
      clear hA hpre
      go_simp
      first | exact hK _ _ hB (by trivial) (fun _ _ h => h) hX | (rw [if_neg (by omega)]; go_simp; exact hK _ _ hB rfl (fun _ _ h => h) hX)
     ·intro vs Wx A lst hA hB hls hX hno hpre K hK
      have e53 := ((hA 53).trans (show _ = vs 4 by kernel_rfl)).trans (by repeat first | exact hpre.1 rfl | replace hpre := hpre.2)
      obtain ⟨hsx, ⟨c0, c1, c2⟩⟩ := HXK.out Wx hB
      obtain ⟨s0, s1, s2, s3⟩ := four hsx
      clear hsx
      clear hA hpre
      go_simp
      first | exact hK _ _ hB (by trivial) (fun _ _ h => h) hX | (rw [if_neg (by omega)]; go_simp; exact hK _ _ hB rfl (fun _ _ h => h) hX)
     ·intro vs Wx A lst hA hB hls hX hno hpre K hK
      have e54 := ((hA 54).trans (show _ = vs 5 by kernel_rfl)).trans (by repeat first | exact hpre.1 rfl | replace hpre := hpre.2)
      clear hA hpre
      go_simp
      refine hK _ _ (below_trans hB (below_alloc Wx _)) ⟨_, rfl, heap_alloc_new Wx _⟩ (fun jz hj hz => ?_) hX
      match jz, hj, hz with
      | 0, _, hz => exact hz
      | 1, _, hz => exact hz
      | 2, _, hz => exact hz
      | 3, _, hz => exact hz
      | 4, _, hz => exact hz
      | 5, _, hz => exact hz
      | 6, hj, _ => exact absurd rfl hj
      | n + 7, _, hz => exact hz
     ·intro vs Wx lst hall hX hB hF
      refine fun A7 hA K7 hK7 => ?_
      have e50 := ((hA 50).trans (show _ = vs 1 by kernel_rfl)).trans (hF 1 (by decide))
      have e55 := (hA 55).trans (show _ = vs 6 by kernel_rfl)
      clear hA
      obtain ⟨g, ea, hgc⟩ := hF 6 (by decide)
      rw [ea] at e55
      have hso : OwnK (p + 5) Wx (.slice u n c) (sm (([⟨gCO, o.deny, o.wr⟩, ⟨gPR, 1, o.de⟩, ⟨gPR, 2, o.cn⟩, ⟨gPR, 3, o.cp⟩, ⟨gOA, 23, o.pr⟩] : List Ca).take k)) := ownK_far HO.out hB
      have hps : p + 5 ≤ Wx.heap.size := Nat.le_trans HPn.out hB.size
      have hhx := (HXK.out Wx hB).1
      have hbx : Below p w Wx := HBn.out.trans (hB.mono (by have := HPn.out; omega))
      have hzx := keepB HZ.out hB
      have hrx := keepB HR.out hB
      refine wp_appK _ _ rfl (p + 5) (.slice u n c) _ (by first | exact e50 | simpa [Act.eval] using e50) hso g 1 x (by first | exact e55 | simpa [Act.eval] using e55) hgc HLN.out hps ?_
      intro v7 w7 hown hgr hat
      rw [← HSM.out] at hown
      have hlow := growK_low hso hgr hps
      have HO7 := Lib.hid hown
      have HH7 : Hid (w7.heap[p + 1 + 1 + 1]? = some (.cells (#[.string (mk l.proc), .int .i64 l.billed, .int .i64 o.plan, .slice u n c] : Array Value) Ts (0, 0))) := (hlow.block (p + 1 + 1 + 1) (by omega)).trans hhx
      have HR7 : Hid (w7.heap[p + 1 + 1 + 1 + 1]? = some (.cells (kcs ([⟨gCO, o.deny, o.wr⟩, ⟨gPR, 1, o.de⟩, ⟨gPR, 2, o.cn⟩, ⟨gPR, 3, o.cp⟩, ⟨gOA, 23, o.pr⟩] : List Ca)).toArray Tk (0, 0))) := (hlow.block (p + 1 + 1 + 1 + 1) (by omega)).trans hrx
      have HZ7 : Hid (w7.heap[p + 1 + 1]? = some (.cells (#[.string { data := #[] }, .int .i64 0, .int .i64 0, .slice none 0 0] : Array Value) Ts (0, 0))) := (hlow.block (p + 1 + 1) (by omega)).trans hzx
      have HB7 : Hid (Below p w w7) := hbx.trans (hlow.mono (by omega))
      have HP7 : Hid (p + 5 ≤ w7.heap.size) := Nat.le_trans hps hgr.size
      obtain ⟨u7, c7, e7v, -, -⟩ := ownK_form hown
      generalize hn7 : (sm (([⟨gCO, o.deny, o.wr⟩, ⟨gPR, 1, o.de⟩, ⟨gPR, 2, o.cn⟩, ⟨gPR, 3, o.cp⟩, ⟨gOA, 23, o.pr⟩] : List Ca).take (k + 1))).length = n7 at *
      subst e7v
      clear hown hgr hat hso hhx hbx hzx hrx hlow e50 e55 hgc
      refine hK7 _ _ ?_
      refine fun A8 hA K8 hK8 => ?_
      have e5 := (hA 5).trans (show _ = Value.pointer (some ⟨(p + 1 + 1 + 1), 0, none⟩) by kernel_rfl)
      clear hA
      go_simp
      refine hK8 _ _ ?_
      refine fun A9 hA K9 hK9 => ?_
      have e57 := (hA 57).trans (show _ = Value.pointer (some ⟨(p + 1 + 1 + 1), 3, none⟩) by kernel_rfl)
      have e56 := (hA 56).trans (show _ = Value.slice u7 n7 c7 by kernel_rfl)
      clear hA
      obtain ⟨q0, q1, q2, q3⟩ := four HH7.out
      obtain ⟨f0, f1, f2, f3⟩ := frz4 HH7.out
      have HS9 : Hid ((w7.setCell ⟨p + 1 + 1 + 1, 3, none⟩ (.slice u7 n7 c7)).heap[p + 1 + 1 + 1]? = some (.cells (#[.string (mk l.proc), .int .i64 l.billed, .int .i64 o.plan, (.slice u7 n7 c7)] : Array Value) Ts (0, 0))) := (by have := heap_set HH7.out 3 (.slice u7 n7 c7); show _ = _; rw [this]; rfl)
      have HR9 : Hid ((w7.setCell ⟨p + 1 + 1 + 1, 3, none⟩ (.slice u7 n7 c7)).heap[p + 1 + 1 + 1 + 1]? = some (.cells (kcs ([⟨gCO, o.deny, o.wr⟩, ⟨gPR, 1, o.de⟩, ⟨gPR, 2, o.cn⟩, ⟨gPR, 3, o.cp⟩, ⟨gOA, 23, o.pr⟩] : List Ca)).toArray Tk (0, 0))) := heap_far HR7.out (by omega)
      have HZ9 : Hid ((w7.setCell ⟨p + 1 + 1 + 1, 3, none⟩ (.slice u7 n7 c7)).heap[p + 1 + 1]? = some (.cells (#[.string { data := #[] }, .int .i64 0, .int .i64 0, .slice none 0 0] : Array Value) Ts (0, 0))) := heap_far HZ7.out (by omega)
      have HO9 : Hid (OwnK (p + 5) (w7.setCell ⟨p + 1 + 1 + 1, 3, none⟩ (.slice u7 n7 c7)) (.slice u7 n7 c7) (sm (([⟨gCO, o.deny, o.wr⟩, ⟨gPR, 1, o.de⟩, ⟨gPR, 2, o.cn⟩, ⟨gPR, 3, o.cp⟩, ⟨gOA, 23, o.pr⟩] : List Ca).take (k + 1)))) := ⟨HO7.out.1, HO7.out.2.imp id (by rintro ⟨g, cap, cur, e, h0, hh, hr⟩; exact ⟨g, cap, cur, e, h0, heap_far hh (by omega), hr⟩)⟩
      have HB9 : Hid (Below p w (w7.setCell ⟨p + 1 + 1 + 1, 3, none⟩ (.slice u7 n7 c7))) := HB7.out.setCell (p := ⟨p + 1 + 1 + 1, 3, none⟩) (show p ≤ p + 1 + 1 + 1 by omega) _
      have HP9 : Hid (p + 5 ≤ (w7.setCell ⟨p + 1 + 1 + 1, 3, none⟩ (.slice u7 n7 c7)).heap.size) := by show _ ≤ _; simpa using HP7.out
      go_simp
      refine hK9 undef _ ?_
      clear q0 q1 q2 q3 f0 f1 f2 f3 HO7 HH7 HR7 HZ7 HB7 HP7
      clear hX hall hF hB
      simp only [Ri.Tail, Ri.puts]
      go_simp
      generalize (w7.setCell ⟨p + 1 + 1 + 1, 3, none⟩ (.slice u7 n7 c7)) = WF at *
      go_wp2
      go_roundg (5 - (k + 1))
      case measure => omega
      case rel => exact ⟨k + 1, u7, n7, c7, by omega, by omega, by first | rfl | go_num, HS9.out, HR9.out, HZ9.out, HO9.out, HB9.out, HP9.out⟩
   ·have hltz : ¬ (k : Int) < 5 := by omega
    have hk5 : k = 5 := by omega
    subst hk5
    obtain ⟨z0, z1, z2, z3⟩ := four HZ.out
    obtain ⟨f0, f1, f2, f3⟩ := frz4 HZ.out
    go_wp2
    have HNA := Lib.hid (put4_heap HZ.out (.string (mk l.proc)) (.int .i64 l.billed) (.int .i64 o.plan) (.slice u n c))
    have HBP := Lib.hid (put4_below HBn.out (p + 1 + 1) (by omega) (.string (mk l.proc)) (.int .i64 l.billed) (.int .i64 o.plan) (.slice u n c))
    have HOA := Lib.hid (ownK_set HO.out (show p + 1 + 1 < p + 5 by omega) (.string (mk l.proc)) (.int .i64 l.billed) (.int .i64 o.plan) (.slice u n c))
    generalize ((((wr.setCell ⟨p + 1 + 1, 0, none⟩ (.string (mk l.proc))).setCell ⟨p + 1 + 1, 1, none⟩ (.int .i64 l.billed)).setCell ⟨p + 1 + 1, 2, none⟩ (.int .i64 o.plan)).setCell ⟨p + 1 + 1, 3, none⟩ (.slice u n c)) = WF at *
    obtain ⟨n0, n1, n2, n3⟩ := four HNA.out
    refine bodyPost_ret (v := srv ⟨l.proc, l.billed, o.plan, sm ([⟨gCO, o.deny, o.wr⟩, ⟨gPR, 1, o.de⟩, ⟨gPR, 2, o.cn⟩, ⟨gPR, 3, o.cp⟩, ⟨gOA, 23, o.pr⟩] : List Ca)⟩ (.slice u n c)) (by simp [results, Try.results53, go_sem, n0, n1, n2, n3]) rfl ?_
    exact ⟨_, rfl, by first | exact HOA.out | (rw [hp]; exact HOA.out), by first | exact HBP.out | (rw [hp]; exact HBP.out)⟩
end Go.Proofs.Ytpfpjbeofogbgaa.Sv
end
