/-
  Texts put together (merge.py): VROf.
-/
import Derived.Test.YtpfpjbeofogbgaaMm24
import Derived.Test.YtpfpjbeofogbgaaMm11
set_option linter.unusedSimpArgs false
set_option linter.unusedVariables false
section
set_option maxRecDepth 100000
namespace Go.Proofs.Ytpfpjbeofogbgaa.Sv
open Go.RowKit
open Sh (Ot member)
open Cm (Ln Cl LnsAt clv ClOk codeB)
open Bk (keepB below_alloc below_trans alloc_new heap_set heap_far OtsAt)
theorem ownK_not {W : World} {B q : Nat} {v : Value} {l : List Ca} {cs : Array Value} {T : TypeId} (h : OwnK B W v l) (hq : W.heap[q]? = some (.cells cs T (0, 0))) (hT : Tk ≠ T) (a0 a1 a2 a3 : Value) : OwnK B ((((W.setCell ⟨q, 0, none⟩ a0).setCell ⟨q, 1, none⟩ a1).setCell ⟨q, 2, none⟩ a2).setCell ⟨q, 3, none⟩ a3) v l := by
 refine ⟨h.1, h.2.imp id ?_⟩
 rintro ⟨g, c, cur, rfl, h0, hh, hr⟩
 refine ⟨g, c, cur, rfl, h0, put4_far hh ?_ .., hr⟩
 intro e
 rw [e, hq] at hh
 simp only [Option.some.injEq, Obj.cells.injEq] at hh
 exact hT hh.2.1.symm
theorem fullS_set {B : Nat} {w : World} {v : Value} {L : List Sx} (h : FullS B w v L) {q : Nat} (hq : q < B) (j : Nat) (u : Value) : FullS B (w.setCell ⟨q, j, none⟩ u) v L := by
 refine ⟨⟨h.1.1, h.1.2.imp id ?_⟩, fun x hx => (h.2 x hx).move ⟨by simp, fun b hb hk => ⟨hk, Below.heap_setCell _ _ _ _ (show b ≠ q by have := hk.2; omega)⟩⟩⟩
 rintro ⟨g, c, cur, rfl, h0, hh, hr⟩
 exact ⟨g, c, cur, rfl, h0, heap_far hh (by omega), hr⟩
theorem put532 {W : World} {b : Nat} {c0 c1 c2 c3 c4 c5 : Value} {T : TypeId} (h : W.heap[b]? = some (.cells #[c0, c1, c2, c3, c4, c5] T (0, 0))) (a5 a2 a3 : Value) : (((W.setCell ⟨b, 5, none⟩ a5).setCell ⟨b, 2, none⟩ a2).setCell ⟨b, 3, none⟩ a3).heap[b]? = some (.cells #[c0, c1, a2, a3, c4, a5] T (0, 0)) := by
 have h2 := heap_set h 5 a5
 have h3 := heap_set h2 2 a2
 have h4 := heap_set h3 3 a3
 rw [h4]; rfl
theorem take_tot {l : List Sr} {k : Nat} {s : Sr} (h : l[k]? = some s) : totB (l.take (k + 1)) = totB (l.take k) + s.bi ∧ totP (l.take (k + 1)) = totP (l.take k) + s.paid := by
 have t := tot_app (l.take k) [s]
 rw [show l.take (k + 1) = l.take k ++ [s] by rw [List.take_add_one, h]; rfl]
 simp only [totB, totP, Int.add_zero] at t
 exact ⟨t.1, t.2.1⟩
theorem memV_app : ∀ (a b : List Ot), memV (a ++ b) = memV a + memV b
 | [], b => by simp [memV]
 | x :: a, b => by simp only [List.cons_append, memV, memV_app a b]; omega
theorem take_mem {l : List Ot} {k : Nat} {o : Ot} (h : l[k]? = some o) : memV (l.take (k + 1)) = memV (l.take k) + o.de + o.cp + o.cn := by
 rw [show l.take (k + 1) = l.take k ++ [o] by rw [List.take_add_one, h]; rfl, memV_app]
 simp only [memV, member]
 omega
theorem memV_bd : ∀ (l : List Ot), (∀ o ∈ l, Bd o.de ∧ Bd o.cp ∧ Bd o.cn) → -(3377699720527872 * (l.length : Int)) ≤ memV l ∧ memV l ≤ 3377699720527872 * (l.length : Int)
 | [], _ => by simp [memV]
 | o :: l, h => by
  have a := memV_bd l fun x hx => h x (List.mem_cons_of_mem _ hx)
  obtain ⟨b1, b2, b3⟩ := h o (List.mem_cons_self ..)
  unfold Bd at b1 b2 b3
  simp only [memV, member, List.length_cons]
  push_cast
  omega
set_option maxHeartbeats 16000000 in
theorem rof_any (c : Cl) (m : Value) (os : List Ot) (mo : Value) (w : World) (hm : LnsAt All w m c.lines) (ho : OtsAt All w mo os) (hz : ClOk c) (hs : Sm c os) (hn : os.length ≤ 300) :
  Calls Try.prog 40 #[clv c m, mo] w fun e w' => OfV c os w e w' := by
 obtain ⟨al, cl, rfl, f1, f2⟩ := Cm.LnsAt.form hm
 obtain ⟨ao, co, rfl, f3, f4⟩ := ho.form
 have hb0 : Below w.heap.size w ((w.alloc (.cells (#[.string (mk c.id), .string (mk c.mem), .string (mk c.fam), .int .i64 c.net, .int .i64 c.does, .string (mk c.ref), .slice al c.lines.length cl] : Array Value) 45)).alloc (.cells (#[.string { data := #[] }, .int .i64 0, .int .i64 0, .int .i64 0, .int .i64 0, .slice none 0 0] : Array Value) 38)) := below_trans (below_alloc w _) (below_alloc _ _)
 have HB := Lib.hid hb0
 have HX := Lib.hid (keepB (alloc_new w (#[.string (mk c.id), .string (mk c.mem), .string (mk c.fam), .int .i64 c.net, .int .i64 c.does, .string (mk c.ref), .slice al c.lines.length cl] : Array Value) 45) (below_alloc _ (.cells (#[.string { data := #[] }, .int .i64 0, .int .i64 0, .int .i64 0, .int .i64 0, .slice none 0 0] : Array Value) 38)))
 have HY := Lib.hid (alloc_new (w.alloc (.cells (#[.string (mk c.id), .string (mk c.mem), .string (mk c.fam), .int .i64 c.net, .int .i64 c.does, .string (mk c.ref), .slice al c.lines.length cl] : Array Value) 45)) (#[.string { data := #[] }, .int .i64 0, .int .i64 0, .int .i64 0, .int .i64 0, .slice none 0 0] : Array Value) 38)
 rw [show (w.alloc (.cells (#[.string (mk c.id), .string (mk c.mem), .string (mk c.fam), .int .i64 c.net, .int .i64 c.does, .string (mk c.ref), .slice al c.lines.length cl] : Array Value) 45)).heap.size = w.heap.size + 1 by simp] at HY
 have HS0 : Hid (((w.alloc (.cells (#[.string (mk c.id), .string (mk c.mem), .string (mk c.fam), .int .i64 c.net, .int .i64 c.does, .string (mk c.ref), .slice al c.lines.length cl] : Array Value) 45)).alloc (.cells (#[.string { data := #[] }, .int .i64 0, .int .i64 0, .int .i64 0, .int .i64 0, .slice none 0 0] : Array Value) 38)).heap.size = w.heap.size + 1 + 1) := by show _ = _; simp
 have HL : Hid (∀ W, Below w.heap.size w W → LnsAt All W (.slice al c.lines.length cl) c.lines) := fun W hW => hm.move (Below.moves hW)
 have HO : Hid (∀ W, Below w.heap.size w W → OtsAt All W (.slice ao os.length co) os) := fun W hW => ho.grw hW
 clear hm ho hb0
 have HNO : Hid (∀ E w', ofE c os = E → E ≠ 0 → Below w.heap.size w w' → OfV c os w (.returned (.tuple #[cpv cp0 (.slice none 0 0), .int .i64 E])) w') := fun E w' h hE hb => ofV_no h hE hb
 by_cases hl : os.length = c.lines.length
 case neg =>
  have hlb : ((os.length : Int) != (c.lines.length : Int)) = true := by simp; omega
  have HQ := Lib.hid fun w' => HNO.out 1 w' (of_len hl) (by decide)
  clear hl hs hz HNO
  go_enter Try.func40, Try.ntmps40
  go_upto_region 1 with fail
  generalize ((w.alloc (.cells (#[.string (mk c.id), .string (mk c.mem), .string (mk c.fam), .int .i64 c.net, .int .i64 c.does, .string (mk c.ref), .slice al c.lines.length cl] : Array Value) 45)).alloc (.cells (#[.string { data := #[] }, .int .i64 0, .int .i64 0, .int .i64 0, .int .i64 0, .slice none 0 0] : Array Value) 38)) = W at *
  generalize hp : w.heap.size = p at *
  obtain ⟨x0, x1, x2, x3, x4, x5, x6⟩ := seven HX.out
  obtain ⟨y0, y1, y2, y3, y4, y5⟩ := six HY.out
  obtain ⟨z0, z1, z2, z3, z4, z5⟩ := frz6 HY.out
  go_wp2
  have HYF := Lib.hid (put6_heap HY.out (.string { data := #[] }) (.int .i64 0) (.int .i64 0) (.int .i64 0) (.int .i64 0) (.slice none 0 0))
  have HBF : Hid (Below p w ((((((W.setCell ⟨(p + 1), 0, none⟩ (.string { data := #[] })).setCell ⟨(p + 1), 1, none⟩ (.int .i64 0)).setCell ⟨(p + 1), 2, none⟩ (.int .i64 0)).setCell ⟨(p + 1), 3, none⟩ (.int .i64 0)).setCell ⟨(p + 1), 4, none⟩ (.int .i64 0)).setCell ⟨(p + 1), 5, none⟩ (.slice none 0 0))) := put6_below HB.out (p + 1) (by omega) _ _ _ _ _ _
  generalize ((((((W.setCell ⟨(p + 1), 0, none⟩ (.string { data := #[] })).setCell ⟨(p + 1), 1, none⟩ (.int .i64 0)).setCell ⟨(p + 1), 2, none⟩ (.int .i64 0)).setCell ⟨(p + 1), 3, none⟩ (.int .i64 0)).setCell ⟨(p + 1), 4, none⟩ (.int .i64 0)).setCell ⟨(p + 1), 5, none⟩ (.slice none 0 0)) = WF at *
  obtain ⟨n0, n1, n2, n3, n4, n5⟩ := six HYF.out
  refine bodyPost_ret (v := .tuple #[.agg (#[.string { data := #[] }, .int .i64 0, .int .i64 0, .int .i64 0, .int .i64 0, .slice none 0 0] : Array Value), .int .i64 (1)]) (by simp [results, Try.results40, go_sem, n0, n1, n2, n3, n4, n5]) rfl ?_
  first | exact HQ.out _ HBF.out | exact HQ.out _ (by rw [hp]; exact HBF.out)
 have hlb : ((os.length : Int) != (c.lines.length : Int)) = false := by rw [hl]; simp
 have HLE := Lib.hid hl
 have hl2 : os.length ≤ c.lines.length := by omega
 have HV : Hid ((svsV c.lines os).length = os.length) := by show _ = _; rw [svs_len c.lines os hl, hl]
 have HAT : Hid (∀ k l o, c.lines[k]? = some l → os[k]? = some o → (svsV c.lines os)[k]? = some (oneV l o)) := svs_at c.lines os
 have HRO := Lib.hid (raw_ok hs hz hl (by omega))
 have HBT : Hid (∀ k, k ≤ 300 → (-337769972052787200 ≤ totB ((svsV c.lines os).take k) ∧ totB ((svsV c.lines os).take k) ≤ 337769972052787200) ∧ (-337769972052787200 ≤ totP ((svsV c.lines os).take k) ∧ totP ((svsV c.lines os).take k) ≤ 337769972052787200)) := fun k hk => by
  have t := tots_bd ((svsV c.lines os).take k) fun s h => one_bd hs (List.mem_of_mem_take h)
  have hl3 : ((svsV c.lines os).take k).length ≤ 300 := by rw [List.length_take]; omega
  omega
 have HBM : Hid (∀ k, k ≤ 300 → -1013309916158361600 ≤ memV (os.take k) ∧ memV (os.take k) ≤ 1013309916158361600) := fun k hk => by
  have t := memV_bd (os.take k) fun o h => ⟨(hs.2 o (List.mem_of_mem_take h)).2.2.2.1, (hs.2 o (List.mem_of_mem_take h)).2.2.2.2.1, (hs.2 o (List.mem_of_mem_take h)).2.2.2.2.2⟩
  have hl3 : (os.take k).length ≤ 300 := by rw [List.length_take]; omega
  omega
 have HSM := Lib.hid hs
 have HIN := Lib.hid (of_in hl)
 clear hl hs hz
 go_enter Try.func40, Try.ntmps40
 go_upto_region 1 with fail
 generalize ((w.alloc (.cells (#[.string (mk c.id), .string (mk c.mem), .string (mk c.fam), .int .i64 c.net, .int .i64 c.does, .string (mk c.ref), .slice al c.lines.length cl] : Array Value) 45)).alloc (.cells (#[.string { data := #[] }, .int .i64 0, .int .i64 0, .int .i64 0, .int .i64 0, .slice none 0 0] : Array Value) 38)) = W at *
 generalize hp : w.heap.size = p at *
 obtain ⟨x0, x1, x2, x3, x4, x5, x6⟩ := seven HX.out
 obtain ⟨y0, y1, y2, y3, y4, y5⟩ := six HY.out
 obtain ⟨z0, z1, z2, z3, z4, z5⟩ := frz6 HY.out
 have HB1 : Hid (Below p w (W.alloc (.cells (#[.string (mk c.id), .int .i64 1, .int .i64 (0), .int .i64 (0), .int .i64 (0), .slice none 0 0] : Array Value) 38))) := HB.out.trans ((below_alloc W _).mono (by have := HS0.out; omega))
 have HX1 := Lib.hid (keepB HX.out (below_alloc W (.cells (#[.string (mk c.id), .int .i64 1, .int .i64 (0), .int .i64 (0), .int .i64 (0), .slice none 0 0] : Array Value) 38)))
 have HY1 := Lib.hid (keepB HY.out (below_alloc W (.cells (#[.string (mk c.id), .int .i64 1, .int .i64 (0), .int .i64 (0), .int .i64 (0), .slice none 0 0] : Array Value) 38)))
 have HH1 := Lib.hid (alloc_new W (#[.string (mk c.id), .int .i64 1, .int .i64 (0), .int .i64 (0), .int .i64 (0), .slice none 0 0] : Array Value) 38)
 rw [HS0.out] at HH1
 have HS1 : Hid ((W.alloc (.cells (#[.string (mk c.id), .int .i64 1, .int .i64 (0), .int .i64 (0), .int .i64 (0), .slice none 0 0] : Array Value) 38)).heap.size = p + 3) := by show _ = _; have := HS0.out; simp; omega
 have hWs := HS0.out
 go_upto_region 4 with fail
 try rw [hWs]
 generalize W.alloc (.cells (#[.string (mk c.id), .int .i64 1, .int .i64 (0), .int .i64 (0), .int .i64 (0), .slice none 0 0] : Array Value) 38) = W1 at *
 clear x0 x1 x2 x3 x4 x5 x6 y0 y1 y2 y3 y4 y5 z0 z1 z2 z3 z4 z5 HX HY HB HS0 hWs
 go_wp2
 go_loopg [7] (os.length) (fun gg t7 wr => ∃ (k : Nat) (N : List Sx) (u : Option Addr) (n q : Nat), k ≤ os.length ∧ gg = os.length - k ∧ t7 = .int .i64 k ∧ Hid (wr.heap[p + 1 + 1]? = some (.cells (#[.string (mk c.id), .int .i64 1, .int .i64 (totB ((svsV c.lines os).take k)), .int .i64 (totP ((svsV c.lines os).take k)), .int .i64 (memV (os.take k)), .slice u n q] : Array Value) 38 (0, 0))) ∧ Hid (FullS (p + 3) wr (.slice u n q) N) ∧ Hid (N.map (·.s) = (svsV c.lines os).take k) ∧ Hid (wr.heap[p]? = some (.cells (#[.string (mk c.id), .string (mk c.mem), .string (mk c.fam), .int .i64 c.net, .int .i64 c.does, .string (mk c.ref), .slice al c.lines.length cl] : Array Value) 45 (0, 0))) ∧ Hid (wr.heap[p + 1]? = some (.cells (#[.string { data := #[] }, .int .i64 0, .int .i64 0, .int .i64 0, .int .i64 0, .slice none 0 0] : Array Value) 38 (0, 0))) ∧ Hid (Below p w wr) ∧ Hid (p + 3 ≤ wr.heap.size))
 case atStart => exact ⟨0, [], none, 0, 0, Nat.zero_le _, rfl, rfl, HH1.out, FullS.nil _ _, rfl, HX1.out, HY1.out, HB1.out, Nat.le_of_eq HS1.out.symm⟩
 case round =>
  obtain ⟨k, N, u, n, q, hk, hgk, rfl, HH, HF, HN, HX, HY, HBn, HPn⟩ := hrel
  obtain ⟨x0, x1, x2, x3, x4, x5, x6⟩ := seven HX.out
  by_cases hlt : k < os.length
  ·have hltz : (k : Int) < (os.length : Int) := by omega
   have hlt2 : k < c.lines.length := by omega
   obtain ⟨b, ol, ml, rfl, hx, hcx, hmx⟩ := Cm.LnsAt.get (HL.out _ HBn.out) k hlt2
   obtain ⟨b2, o2, rfl, hbl2, hy, hcy⟩ := OtsAt.get (HO.out _ HBn.out) k hlt
   have hbl := World.block_lt_of_cell? wr _ hcx.1
   have hlk := HAT.out k _ _ hx hy
   have HTT := Lib.hid (take_tot hlk)
   have HTM := Lib.hid (take_mem hy)
   have HTN : Hid ((svsV c.lines os).take (k + 1) = (svsV c.lines os).take k ++ [oneV c.lines[k] os[k]]) := by show _ = _; rw [List.take_add_one, hlk]; rfl
   have hbt := HBT.out k (by omega)
   have hbt1 := HBT.out (k + 1) (by omega)
   have hbm := HBM.out k (by omega)
   have HBD := Lib.hid (And.intro (HSM.out.1 _ (List.mem_of_getElem? hx)) (HSM.out.2 _ (List.mem_of_getElem? hy)))
   obtain ⟨am, cm, rfl, -, -⟩ := Cm.TxAt.form hmx
   have HOT : Hid (∀ W', Below w.heap.size w W' → Bk.OtCells W' b2 (o2 + k * 8) os[k]) := fun W' hW => by
    obtain ⟨b', o', e, -, -, hc⟩ := OtsAt.get (HO.out W' (by rw [← hp]; exact hW)) k hlt
    simp only [Option.some.injEq, Addr.mk.injEq, and_true] at e
    obtain ⟨rfl, rfl⟩ := e
    exact hc
   have hi1 : k < os.length := hlt
   have hi2 : k < c.lines.length := hlt2
   generalize c.lines[k] = l at *
   generalize os[k] = o at *
   obtain ⟨⟨d1, d2⟩, ⟨d3, d4⟩, -, -, ⟨d5, d6⟩, ⟨d7, d8⟩, ⟨d9, d10⟩⟩ := HBD.out
   obtain ⟨wo, rfl⟩ : ∃ z, z = wr := ⟨_, rfl⟩
   have HXK : Hid (∀ W', Below wo.heap.size wo W' → W'.heap[p]? = some (.cells (#[.string (mk c.id), .string (mk c.mem), .string (mk c.fam), .int .i64 c.net, .int .i64 c.does, .string (mk c.ref), .slice (some ⟨b, ol, none⟩) c.lines.length cl] : Array Value) 45 (0, 0)) ∧ Cm.LnCells W' b (ol + k * 6) l (.slice am l.mods.length cm) ∧ Bk.OtCells W' b2 (o2 + k * 8) o) := fun W' hW => ⟨keepB HX.out hW, hcx.of (hW.block b hbl), hcy.of (hW.block b2 hbl2)⟩
   clear hx hy hcx hcy hmx hbl hbl2 hlk HBD
   have HD := Lib.hid (Below.drew (Below.refl wo.heap.size wo))
   go_upto_region 7 with fail
   refine Ri.wp_region_tailX 11 (by kernel_rfl) (by kernel_rfl) (by kernel_rfl) (by decide) (by kernel_rfl) (fun Wx => Below wo.heap.size wo Wx) (fun kz vs wz => (fun kx vx wx => match kx with | 0 => vx = .pointer (some ⟨p, 6, none⟩) | 1 => vx = .slice (some ⟨b, ol, none⟩) c.lines.length cl | 2 => vx = .int .i64 (k : Nat) | 3 => vx = .pointer (some ⟨b, ol + k * 6, none⟩) | 4 => vx = Cm.lnv l (.slice am l.mods.length cm) | 5 => vx = .slice (some ⟨b2, o2, none⟩) os.length co | 6 => vx = .int .i64 (k : Nat) | 7 => vx = .pointer (some ⟨b2, o2 + k * 8, none⟩) | 8 => vx = .agg #[.int .i64 o.al, .int .i64 o.de, .int .i64 o.cp, .int .i64 o.cn, .int .i64 o.plan, .int .i64 o.wr, .int .i64 o.pr, .int .i64 o.deny] | 9 => (∃ z : Option Addr × Nat, vx = srv (oneV l o) (.slice z.1 (casV o).length z.2) ∧ OwnK wo.heap.size wx (.slice z.1 (casV o).length z.2) (casV o)) | 10 => (∃ g : Nat, vx = .pointer (some ⟨g, 0, none⟩) ∧ wo.heap.size ≤ g ∧ wx.heap[g]? = some (.cells (#[.string { data := #[] }, .int .i64 0, .int .i64 0, .slice none 0 0] : Array Value) Ts (0, 0))) | _ => True : Nat → Value → World → Prop) kz (vs kz) wz) (fun lst vs => True) (fun kz => [kz]) (by kernel_rfl) (fun jz vs iz vz wz hiz hz => Ri.loc_own (F := (fun kx vx wx => match kx with | 0 => vx = .pointer (some ⟨p, 6, none⟩) | 1 => vx = .slice (some ⟨b, ol, none⟩) c.lines.length cl | 2 => vx = .int .i64 (k : Nat) | 3 => vx = .pointer (some ⟨b, ol + k * 6, none⟩) | 4 => vx = Cm.lnv l (.slice am l.mods.length cm) | 5 => vx = .slice (some ⟨b2, o2, none⟩) os.length co | 6 => vx = .int .i64 (k : Nat) | 7 => vx = .pointer (some ⟨b2, o2 + k * 8, none⟩) | 8 => vx = .agg #[.int .i64 o.al, .int .i64 o.de, .int .i64 o.cp, .int .i64 o.cn, .int .i64 o.plan, .int .i64 o.wr, .int .i64 o.pr, .int .i64 o.deny] | 9 => (∃ z : Option Addr × Nat, vx = srv (oneV l o) (.slice z.1 (casV o).length z.2) ∧ OwnK wo.heap.size wx (.slice z.1 (casV o).length z.2) (casV o)) | 10 => (∃ g : Nat, vx = .pointer (some ⟨g, 0, none⟩) ∧ wo.heap.size ≤ g ∧ wx.heap[g]? = some (.cells (#[.string { data := #[] }, .int .i64 0, .int .i64 0, .slice none 0 0] : Array Value) Ts (0, 0))) | _ => True : Nat → Value → World → Prop)) jz vs iz vz wz hiz hz) HD.out ?_ ⟨⟨rfl, ?_⟩, ⟨rfl, ?_⟩, ⟨rfl, ?_⟩, ⟨rfl, ?_⟩, ⟨rfl, ?_⟩, ⟨rfl, ?_⟩, ⟨rfl, ?_⟩, ⟨rfl, ?_⟩, ⟨rfl, ?_⟩, ⟨rfl, ?_⟩, ⟨rfl, ?_⟩, trivial⟩ ?_
   ·intro vs hvs
    exact trivial
   ·intro vs Wx A lst hA hB hls hX hno hpre K hK
    have e2 := (hA 2).trans (show _ = Value.pointer (some ⟨p, 0, none⟩) by kernel_rfl)
    clear hA hpre
    go_simp
    first | exact hK _ _ hB (by trivial) (fun _ _ h => h) hX | (rw [if_neg (by omega)]; go_simp; exact hK _ _ hB rfl (fun _ _ h => h) hX)
   ·intro vs Wx A lst hA hB hls hX hno hpre K hK
    have e26 := ((hA 26).trans (show _ = vs 0 by kernel_rfl)).trans (by repeat first | exact hpre.1 rfl | replace hpre := hpre.2)
    obtain ⟨hxp, ⟨l0, l1, l2, l3, l4, l5⟩, ⟨o0, o1, oo2, o3, o4, o5, o6, o7⟩⟩ := HXK.out Wx hB
    obtain ⟨x0, x1, x2, x3, x4, x5, x6⟩ := seven hxp
    clear hxp
    clear hA hpre
    go_simp
    first | exact hK _ _ hB (by trivial) (fun _ _ h => h) hX | (rw [if_neg (by omega)]; go_simp; exact hK _ _ hB rfl (fun _ _ h => h) hX)
   ·intro vs Wx A lst hA hB hls hX hno hpre K hK
    have e7 := (hA 7).trans (show _ = Value.int .i64 (k : Nat) by kernel_rfl)
    clear hA hpre
    go_simp
    first | exact hK _ _ hB (by trivial) (fun _ _ h => h) hX | (rw [if_neg (by omega)]; go_simp; exact hK _ _ hB rfl (fun _ _ h => h) hX)
   ·intro vs Wx A lst hA hB hls hX hno hpre K hK
    have e27 := ((hA 27).trans (show _ = vs 1 by kernel_rfl)).trans (by repeat first | exact hpre.1 rfl | replace hpre := hpre.2)
    have e28 := ((hA 28).trans (show _ = vs 2 by kernel_rfl)).trans (by repeat first | exact hpre.1 rfl | replace hpre := hpre.2)
    clear hA hpre
    go_simp
    first | exact hK _ _ hB (by trivial) (fun _ _ h => h) hX | (rw [if_neg (by omega)]; go_simp; exact hK _ _ hB rfl (fun _ _ h => h) hX)
   ·intro vs Wx A lst hA hB hls hX hno hpre K hK
    have e29 := ((hA 29).trans (show _ = vs 3 by kernel_rfl)).trans (by repeat first | exact hpre.1 rfl | replace hpre := hpre.2)
    obtain ⟨hxp, ⟨l0, l1, l2, l3, l4, l5⟩, ⟨o0, o1, oo2, o3, o4, o5, o6, o7⟩⟩ := HXK.out Wx hB
    obtain ⟨x0, x1, x2, x3, x4, x5, x6⟩ := seven hxp
    clear hxp
    clear hA hpre
    go_simp
    first | exact hK _ _ hB (by trivial) (fun _ _ h => h) hX | (rw [if_neg (by omega)]; go_simp; exact hK _ _ hB rfl (fun _ _ h => h) hX)
   ·intro vs Wx A lst hA hB hls hX hno hpre K hK
    have e1 := (hA 1).trans (show _ = Value.slice (some ⟨b2, o2, none⟩) os.length co by kernel_rfl)
    clear hA hpre
    go_simp
    first | exact hK _ _ hB (by trivial) (fun _ _ h => h) hX | (rw [if_neg (by omega)]; go_simp; exact hK _ _ hB rfl (fun _ _ h => h) hX)
   ·intro vs Wx A lst hA hB hls hX hno hpre K hK
    have e7 := (hA 7).trans (show _ = Value.int .i64 (k : Nat) by kernel_rfl)
    clear hA hpre
    go_simp
    first | exact hK _ _ hB (by trivial) (fun _ _ h => h) hX | (rw [if_neg (by omega)]; go_simp; exact hK _ _ hB rfl (fun _ _ h => h) hX)
   ·intro vs Wx A lst hA hB hls hX hno hpre K hK
    have e31 := ((hA 31).trans (show _ = vs 5 by kernel_rfl)).trans (by repeat first | exact hpre.1 rfl | replace hpre := hpre.2)
    have e32 := ((hA 32).trans (show _ = vs 6 by kernel_rfl)).trans (by repeat first | exact hpre.1 rfl | replace hpre := hpre.2)
    clear hA hpre
    go_simp
    first | exact hK _ _ hB (by trivial) (fun _ _ h => h) hX | (rw [if_neg (by omega)]; go_simp; exact hK _ _ hB rfl (fun _ _ h => h) hX)
   ·intro vs Wx A lst hA hB hls hX hno hpre K hK
    have e33 := ((hA 33).trans (show _ = vs 7 by kernel_rfl)).trans (by repeat first | exact hpre.1 rfl | replace hpre := hpre.2)
    obtain ⟨hxp, ⟨l0, l1, l2, l3, l4, l5⟩, ⟨o0, o1, oo2, o3, o4, o5, o6, o7⟩⟩ := HXK.out Wx hB
    obtain ⟨x0, x1, x2, x3, x4, x5, x6⟩ := seven hxp
    clear hxp
    clear hA hpre
    go_simp
    first | exact hK _ _ hB (by trivial) (fun _ _ h => h) hX | (rw [if_neg (by omega)]; go_simp; exact hK _ _ hB rfl (fun _ _ h => h) hX)
   ·intro vs Wx A lst hA hB hls hX hno hpre K hK
    have e30 := ((hA 30).trans (show _ = vs 4 by kernel_rfl)).trans (by repeat first | exact hpre.1 rfl | replace hpre := hpre.2)
    have e34 := ((hA 34).trans (show _ = vs 8 by kernel_rfl)).trans (by repeat first | exact hpre.1 rfl | replace hpre := hpre.2)
    clear hA hpre
    go_simp
    go_at_call 53
    refine (rone_any l (.slice am l.mods.length cm) o Wx ⟨_, _, _, rfl⟩).mono ?_
    rintro e w4 ⟨v', rfl, ho, hg⟩
    obtain ⟨ua, uc, rfl, -, -⟩ := ownK_form ho
    refine hK _ _ (below_trans hB hg) ⟨(ua, uc), rfl, ownK_low ho (by have := hB.size; omega)⟩ (fun jz hj hz => ?_) hX
    match jz, hj, hz with
    | 0, _, hz => exact hz
    | 1, _, hz => exact hz
    | 2, _, hz => exact hz
    | 3, _, hz => exact hz
    | 4, _, hz => exact hz
    | 5, _, hz => exact hz
    | 6, _, hz => exact hz
    | 7, _, hz => exact hz
    | 8, _, hz => exact hz
    | 9, hj, _ => exact absurd rfl hj
    | 10, _, hz => exact (hz.elim fun g h => ⟨g, h.1, h.2.1, keepB h.2.2 hg⟩)
    | n + 11, _, hz => exact hz
   ·intro vs Wx A lst hA hB hls hX hno hpre K hK
    clear hA hpre
    go_simp
    refine hK _ _ (below_trans hB (below_alloc Wx _)) ⟨_, rfl, hB.size, heap_alloc_new Wx _⟩ (fun jz hj hz => ?_) hX
    match jz, hj, hz with
    | 0, _, hz => exact hz
    | 1, _, hz => exact hz
    | 2, _, hz => exact hz
    | 3, _, hz => exact hz
    | 4, _, hz => exact hz
    | 5, _, hz => exact hz
    | 6, _, hz => exact hz
    | 7, _, hz => exact hz
    | 8, _, hz => exact hz
    | 9, _, hz => exact (hz.elim fun z h => ⟨z, h.1, ownK_far h.2 (below_alloc Wx _)⟩)
    | 10, hj, _ => exact absurd rfl hj
    | n + 11, _, hz => exact hz
   ·intro vs Wx lst hall hX hB hF
    refine fun A11 hA K11 hK11 => ?_
    have e8 := (hA 8).trans (show _ = vs 10 by kernel_rfl)
    have e35 := (hA 35).trans (show _ = vs 9 by kernel_rfl)
    clear hA
    obtain ⟨z, ez, hoz⟩ := hF 9 (by decide)
    obtain ⟨g, eg, hgo, hgc⟩ := hF 10 (by decide)
    rw [ez] at e35
    rw [eg] at e8
    obtain ⟨q0, q1, q2, q3⟩ := four hgc
    obtain ⟨k0, k1, k2, k3⟩ := frz4 hgc
    have hpn := HPn.out
    have HG4 : Hid (((((Wx.setCell ⟨g, 0, none⟩ (.string (mk (oneV l o).proc))).setCell ⟨g, 1, none⟩ (.int .i64 (oneV l o).bi)).setCell ⟨g, 2, none⟩ (.int .i64 (oneV l o).paid)).setCell ⟨g, 3, none⟩ (.slice z.1 (casV o).length z.2)).heap[g]? = some (.cells (sre (oneV l o) (.slice z.1 (casV o).length z.2)) Ts (0, 0))) := put4_heap hgc (.string (mk (oneV l o).proc)) (.int .i64 (oneV l o).bi) (.int .i64 (oneV l o).paid) (.slice z.1 (casV o).length z.2)
    have HZ4 : Hid (OwnK wo.heap.size ((((Wx.setCell ⟨g, 0, none⟩ (.string (mk (oneV l o).proc))).setCell ⟨g, 1, none⟩ (.int .i64 (oneV l o).bi)).setCell ⟨g, 2, none⟩ (.int .i64 (oneV l o).paid)).setCell ⟨g, 3, none⟩ (.slice z.1 (casV o).length z.2)) (.slice z.1 (casV o).length z.2) (casV o)) := ownK_not hoz hgc (by decide) (.string (mk (oneV l o).proc)) (.int .i64 (oneV l o).bi) (.int .i64 (oneV l o).paid) (.slice z.1 (casV o).length z.2)
    have HB4 : Hid (Below wo.heap.size wo ((((Wx.setCell ⟨g, 0, none⟩ (.string (mk (oneV l o).proc))).setCell ⟨g, 1, none⟩ (.int .i64 (oneV l o).bi)).setCell ⟨g, 2, none⟩ (.int .i64 (oneV l o).paid)).setCell ⟨g, 3, none⟩ (.slice z.1 (casV o).length z.2))) := put4_below hB g hgo (.string (mk (oneV l o).proc)) (.int .i64 (oneV l o).bi) (.int .i64 (oneV l o).paid) (.slice z.1 (casV o).length z.2)
    have HGS : Hid (g < ((((Wx.setCell ⟨g, 0, none⟩ (.string (mk (oneV l o).proc))).setCell ⟨g, 1, none⟩ (.int .i64 (oneV l o).bi)).setCell ⟨g, 2, none⟩ (.int .i64 (oneV l o).paid)).setCell ⟨g, 3, none⟩ (.slice z.1 (casV o).length z.2)).heap.size) := (Array.getElem?_eq_some_iff.1 (put4_heap hgc (.string (mk (oneV l o).proc)) (.int .i64 (oneV l o).bi) (.int .i64 (oneV l o).paid) (.slice z.1 (casV o).length z.2))).1
    clear hoz hgc
    go_simp
    refine hK11 undef _ ?_
    clear q0 q1 q2 q3 k0 k1 k2 k3
    clear hX hall hF hB
    simp only [Ri.Tail, Ri.puts]
    go_simp
    generalize ((((Wx.setCell ⟨g, 0, none⟩ (.string (mk (oneV l o).proc))).setCell ⟨g, 1, none⟩ (.int .i64 (oneV l o).bi)).setCell ⟨g, 2, none⟩ (.int .i64 (oneV l o).paid)).setCell ⟨g, 3, none⟩ (.slice z.1 (casV o).length z.2)) = W4 at *
    simp [Ri.upd]
    rw [eg]
    have HMN : Hid ((N ++ [(⟨oneV l o, (.slice z.1 (casV o).length z.2)⟩ : Sx)]).map (·.s) = (svsV c.lines os).take (k + 1)) := by show _ = _; rw [List.map_append, HN.out, HTN.out]; rfl
    have HGO : Hid (wo.heap.size ≤ g) := hgo
    have HAN : Hid ((W4.alloc (.cells (sre (oneV l o) (.slice z.1 (casV o).length z.2)) Ts)).heap[W4.heap.size]? = some (.cells (sre (oneV l o) (.slice z.1 (casV o).length z.2)) Ts (0, 0))) := alloc_new W4 _ _
    have HLN : Hid (N.length ≤ 1000000) := by
     show _ ≤ _
     have h1 := congrArg List.length HN.out
     rw [List.length_map, List.length_take] at h1
     omega
    have HBA : Hid (Below wo.heap.size wo (W4.alloc (.cells (sre (oneV l o) (.slice z.1 (casV o).length z.2)) Ts))) := below_trans HB4.out (below_alloc W4 _)
    have HAP : Hid (FullS (p + 3) (W4.alloc (.cells (sre (oneV l o) (.slice z.1 (casV o).length z.2)) Ts)) (.slice u n q) N ∧ CasAt (Off (p + 3) (.slice u n q)) (W4.alloc (.cells (sre (oneV l o) (.slice z.1 (casV o).length z.2)) Ts)) (.slice z.1 (casV o).length z.2) (oneV l o).cas ∧ p + 3 ≤ (W4.alloc (.cells (sre (oneV l o) (.slice z.1 (casV o).length z.2)) Ts)).heap.size) := by
     have hpn := HPn.out
     refine ⟨HF.out.grw HBA.out, ?_, Nat.le_trans hpn HBA.out.size⟩
     refine cas_of_own (ownK_far HZ4.out (below_alloc W4 _)) fun b hb => ⟨fun e => ?_, by omega⟩
     have := (HF.out.1.lt b e).2
     omega
    have HGW : Hid (∀ v5 w5, OwnS (p + 3) w5 v5 (N ++ [⟨oneV l o, (.slice z.1 (casV o).length z.2)⟩]) → (W4.alloc (.cells (sre (oneV l o) (.slice z.1 (casV o).length z.2)) Ts)).grownBy w5 (Value.slice u n q).ownBlock → (v5.ownBlock = (Value.slice u n q).ownBlock ∨ v5.ownBlock = some (W4.alloc (.cells (sre (oneV l o) (.slice z.1 (casV o).length z.2)) Ts)).heap.size) → ∃ u5 n5 c5, v5 = .slice u5 n5 c5 ∧ FullS (p + 3) w5 v5 (N ++ [⟨oneV l o, (.slice z.1 (casV o).length z.2)⟩]) ∧ w5.heap[p + 1 + 1]? = some (.cells (#[.string (mk c.id), .int .i64 1, .int .i64 (totB ((svsV c.lines os).take k)), .int .i64 (totP ((svsV c.lines os).take k)), .int .i64 (memV (os.take k)), .slice u n q] : Array Value) 38 (0, 0)) ∧ w5.heap[p]? = some (.cells (#[.string (mk c.id), .string (mk c.mem), .string (mk c.fam), .int .i64 c.net, .int .i64 c.does, .string (mk c.ref), .slice (some ⟨b, ol, none⟩) c.lines.length cl] : Array Value) 45 (0, 0)) ∧ w5.heap[p + 1]? = some (.cells (#[.string { data := #[] }, .int .i64 0, .int .i64 0, .int .i64 0, .int .i64 0, .slice none 0 0] : Array Value) 38 (0, 0)) ∧ Below p w w5 ∧ p + 3 ≤ w5.heap.size ∧ w5.heap[g]? = some (.cells (sre (oneV l o) (.slice z.1 (casV o).length z.2)) Ts (0, 0))) := fun v5 w5 hown hgr hat => by
     have hf := HAP.out.1.app HAP.out.2.1 hown hgr hat
     have hlow := growS_low HAP.out.1.1 hgr HAP.out.2.2
     obtain ⟨u5, c5, e5, -, -⟩ := hf.form
     have hpn := HPn.out
     have hgs : g < (W4.alloc (.cells (sre (oneV l o) (.slice z.1 (casV o).length z.2)) Ts)).heap.size := by have := HGS.out; simp; omega
     have hgo := HGO.out
     refine ⟨u5, _, c5, e5, hf, ?_, ?_, ?_, ?_, Nat.le_trans HAP.out.2.2 hgr.size, ?_⟩
     ·exact (hlow.block (p + 1 + 1) (by omega)).trans (keepB HH.out HBA.out)
     ·exact (hlow.block p (by omega)).trans (keepB HX.out HBA.out)
     ·exact (hlow.block (p + 1) (by omega)).trans (keepB HY.out HBA.out)
     ·exact (HBn.out.trans (HBA.out.mono (by omega))).trans (hlow.mono (by omega))
     ·refine (hgr.block g hgs fun e => ?_).trans (keepB HG4.out (below_alloc W4 _))
      have := (HF.out.1.lt g e.symm).2
      omega
    have HHW := Lib.hid (keepB HH.out HB4.out)
    obtain ⟨q0, q1, q2, q3, q4, q5⟩ := six HHW.out
    obtain ⟨k0, k1, k2, k3, k4, k5⟩ := frz6 HHW.out
    obtain ⟨g0, g1, g2, g3⟩ := four HG4.out
    have hbt0 := hbt
    have e_bi : Bd (oneV l o).bi := ⟨d1, d2⟩
    have e_pd : Bd (oneV l o).paid := ⟨d3, d4⟩
    obtain ⟨eb1, eb2⟩ := e_bi
    obtain ⟨ep1, ep2⟩ := e_pd
    obtain ⟨⟨hb1, hb2⟩, ⟨hb3, hb4⟩⟩ := hbt
    go_upto_region 11 with (first | (at_builtin; refine wpList_plain (by rfl) (fun K hK => ?_); refine wp_appS _ _ rfl (p + 3) (.slice u n q) N rfl HAP.out.1.1 _ 1 ⟨oneV l o, (.slice z.1 (casV o).length z.2)⟩ rfl HAN.out (HAP.out.2.1.sl (s := oneV l o)) HLN.out HAP.out.2.2 (fun v5 w5 hown hgr hat => ?_); refine hK _ _ ?_; obtain ⟨u5, n5, c5, rfl, hf5, hh5, hp5, hq5, hb5, hs5, hg5⟩ := HGW.out v5 w5 hown hgr hat; have HF5 := Lib.hid hf5; have HB5 := Lib.hid hb5; have HP5 := Lib.hid hp5; have HQ5 := Lib.hid hq5; have HS5 := Lib.hid hs5; have HH5 := Lib.hid hh5; clear x0 x1 x2 x3 x4 x5 x6 q0 q1 q2 q3 k0 k1 k2 k3 k4 k5 g0 g1 g2 g3; obtain ⟨q0, q1, q2, q3, q4, q5⟩ := six hh5; obtain ⟨k0, k1, k2, k3, k4, k5⟩ := frz6 hh5; obtain ⟨g0, g1, g2, g3⟩ := four hg5; clear hown hgr hat hK hf5 hh5 hp5 hq5 hb5 hs5 hg5))
    have HH6 : Hid ((((w5.setCell ⟨p + 1 + 1, 5, none⟩ (.slice u5 n5 c5)).setCell ⟨p + 1 + 1, 2, none⟩ (.int .i64 (totB ((svsV c.lines os).take k) + (oneV l o).bi))).setCell ⟨p + 1 + 1, 3, none⟩ (.int .i64 (totP ((svsV c.lines os).take k) + (oneV l o).paid))).heap[p + 1 + 1]? = some (.cells (#[.string (mk c.id), .int .i64 1, .int .i64 (totB ((svsV c.lines os).take k) + (oneV l o).bi), .int .i64 (totP ((svsV c.lines os).take k) + (oneV l o).paid), .int .i64 (memV (os.take k)), (.slice u5 n5 c5)] : Array Value) 38 (0, 0))) := put532 HH5.out _ _ _
    have HF6 : Hid (FullS (p + 3) (((w5.setCell ⟨p + 1 + 1, 5, none⟩ (.slice u5 n5 c5)).setCell ⟨p + 1 + 1, 2, none⟩ (.int .i64 (totB ((svsV c.lines os).take k) + (oneV l o).bi))).setCell ⟨p + 1 + 1, 3, none⟩ (.int .i64 (totP ((svsV c.lines os).take k) + (oneV l o).paid))) (.slice u5 n5 c5) (N ++ [⟨oneV l o, (.slice z.1 (casV o).length z.2)⟩])) := fullS_set (fullS_set (fullS_set HF5.out (by omega) 5 _) (by omega) 2 _) (by omega) 3 _
    have HP6 : Hid ((((w5.setCell ⟨p + 1 + 1, 5, none⟩ (.slice u5 n5 c5)).setCell ⟨p + 1 + 1, 2, none⟩ (.int .i64 (totB ((svsV c.lines os).take k) + (oneV l o).bi))).setCell ⟨p + 1 + 1, 3, none⟩ (.int .i64 (totP ((svsV c.lines os).take k) + (oneV l o).paid))).heap[p]? = some (.cells (#[.string (mk c.id), .string (mk c.mem), .string (mk c.fam), .int .i64 c.net, .int .i64 c.does, .string (mk c.ref), .slice (some ⟨b, ol, none⟩) c.lines.length cl] : Array Value) 45 (0, 0))) := heap_far (heap_far (heap_far HP5.out (by omega)) (by omega)) (by omega)
    have HQ6 : Hid ((((w5.setCell ⟨p + 1 + 1, 5, none⟩ (.slice u5 n5 c5)).setCell ⟨p + 1 + 1, 2, none⟩ (.int .i64 (totB ((svsV c.lines os).take k) + (oneV l o).bi))).setCell ⟨p + 1 + 1, 3, none⟩ (.int .i64 (totP ((svsV c.lines os).take k) + (oneV l o).paid))).heap[p + 1]? = some (.cells (#[.string { data := #[] }, .int .i64 0, .int .i64 0, .int .i64 0, .int .i64 0, .slice none 0 0] : Array Value) 38 (0, 0))) := heap_far (heap_far (heap_far HQ5.out (by omega)) (by omega)) (by omega)
    have HB6 : Hid (Below p w (((w5.setCell ⟨p + 1 + 1, 5, none⟩ (.slice u5 n5 c5)).setCell ⟨p + 1 + 1, 2, none⟩ (.int .i64 (totB ((svsV c.lines os).take k) + (oneV l o).bi))).setCell ⟨p + 1 + 1, 3, none⟩ (.int .i64 (totP ((svsV c.lines os).take k) + (oneV l o).paid)))) := ((HB5.out.setCell (p := ⟨p + 1 + 1, 5, none⟩) (show p ≤ p + 1 + 1 by omega) _).setCell (p := ⟨p + 1 + 1, 2, none⟩) (show p ≤ p + 1 + 1 by omega) _).setCell (p := ⟨p + 1 + 1, 3, none⟩) (show p ≤ p + 1 + 1 by omega) _
    have HS6 : Hid (p + 3 ≤ (((w5.setCell ⟨p + 1 + 1, 5, none⟩ (.slice u5 n5 c5)).setCell ⟨p + 1 + 1, 2, none⟩ (.int .i64 (totB ((svsV c.lines os).take k) + (oneV l o).bi))).setCell ⟨p + 1 + 1, 3, none⟩ (.int .i64 (totP ((svsV c.lines os).take k) + (oneV l o).paid))).heap.size) := by show _ ≤ _; simpa using HS5.out
    generalize (((w5.setCell ⟨p + 1 + 1, 5, none⟩ (.slice u5 n5 c5)).setCell ⟨p + 1 + 1, 2, none⟩ (.int .i64 (totB ((svsV c.lines os).take k) + (oneV l o).bi))).setCell ⟨p + 1 + 1, 3, none⟩ (.int .i64 (totP ((svsV c.lines os).take k) + (oneV l o).paid))) = W6 at *
    clear q0 q1 q2 q3 q4 q5 k0 k1 k2 k3 k4 k5 g0 g1 g2 g3 HXK HD HG4 HZ4 HB4 HGS HAN HAP HGW HHW HBA
    have hot : Bk.OtCells W6 b2 (o2 + k * 8) o := (HOT.out _ (by first | exact HB6.out | (rw [hp]; exact HB6.out)))
    have HX6 : Hid (∀ W', Below W6.heap.size W6 W' → W'.heap[p + 1 + 1]? = some (.cells (#[.string (mk c.id), .int .i64 1, .int .i64 (totB ((svsV c.lines os).take k) + (oneV l o).bi), .int .i64 (totP ((svsV c.lines os).take k) + (oneV l o).paid), .int .i64 (memV (os.take k)), (.slice u5 n5 c5)] : Array Value) 38 (0, 0)) ∧ Bk.OtCells W' b2 (o2 + k * 8) o) := fun W' hW => ⟨keepB HH6.out hW, hot.of (hW.block b2 (World.block_lt_of_cell? W6 _ hot.1))⟩
    have HD6 := Lib.hid (Below.drew (Below.refl W6.heap.size W6))
    have HW1 : Hid (IntKind.i64.wrap (memV (os.take k) + o.de) = memV (os.take k) + o.de) := by show _ = _; rw [IntKind.wrap_i64]; omega
    have HW2 : Hid (IntKind.i64.wrap (memV (os.take k) + o.de + o.cp) = memV (os.take k) + o.de + o.cp) := by show _ = _; rw [IntKind.wrap_i64]; omega
    have HW3 : Hid (IntKind.i64.wrap (memV (os.take k) + o.de + o.cp + o.cn) = memV (os.take k) + o.de + o.cp + o.cn) := by show _ = _; rw [IntKind.wrap_i64]; omega
    clear hot
    refine Ri.wp_region_tailX 21 (by kernel_rfl) (by kernel_rfl) (by kernel_rfl) (by decide) (by kernel_rfl) (fun Wx => Below W6.heap.size W6 Wx) (fun kz vs wz => (fun kx vx wx => match kx with | 0 => vx = .pointer (some ⟨(p + 1 + 1), 4, none⟩) | 1 => vx = .int .i64 (memV (os.take k)) | 2 => vx = .slice (some ⟨b2, o2, none⟩) os.length co | 3 => vx = .int .i64 (k : Nat) | 4 => vx = .pointer (some ⟨b2, o2 + k * 8, none⟩) | 5 => vx = .pointer (some ⟨b2, o2 + k * 8 + 1, none⟩) | 6 => vx = .int .i64 o.de | 7 => vx = .int .i64 (memV (os.take k) + o.de) | 8 => vx = .slice (some ⟨b2, o2, none⟩) os.length co | 9 => vx = .int .i64 (k : Nat) | 10 => vx = .pointer (some ⟨b2, o2 + k * 8, none⟩) | 11 => vx = .pointer (some ⟨b2, o2 + k * 8 + 2, none⟩) | 12 => vx = .int .i64 o.cp | 13 => vx = .int .i64 (memV (os.take k) + o.de + o.cp) | 14 => vx = .slice (some ⟨b2, o2, none⟩) os.length co | 15 => vx = .int .i64 (k : Nat) | 16 => vx = .pointer (some ⟨b2, o2 + k * 8, none⟩) | 17 => vx = .pointer (some ⟨b2, o2 + k * 8 + 3, none⟩) | 18 => vx = .int .i64 o.cn | 19 => vx = .int .i64 (memV (os.take k) + o.de + o.cp + o.cn) | 20 => vx = .pointer (some ⟨(p + 1 + 1), 4, none⟩) | _ => True : Nat → Value → World → Prop) kz (vs kz) wz) (fun lst vs => True) (fun kz => [kz]) (by kernel_rfl) (fun jz vs iz vz wz hiz hz => Ri.loc_own (F := (fun kx vx wx => match kx with | 0 => vx = .pointer (some ⟨(p + 1 + 1), 4, none⟩) | 1 => vx = .int .i64 (memV (os.take k)) | 2 => vx = .slice (some ⟨b2, o2, none⟩) os.length co | 3 => vx = .int .i64 (k : Nat) | 4 => vx = .pointer (some ⟨b2, o2 + k * 8, none⟩) | 5 => vx = .pointer (some ⟨b2, o2 + k * 8 + 1, none⟩) | 6 => vx = .int .i64 o.de | 7 => vx = .int .i64 (memV (os.take k) + o.de) | 8 => vx = .slice (some ⟨b2, o2, none⟩) os.length co | 9 => vx = .int .i64 (k : Nat) | 10 => vx = .pointer (some ⟨b2, o2 + k * 8, none⟩) | 11 => vx = .pointer (some ⟨b2, o2 + k * 8 + 2, none⟩) | 12 => vx = .int .i64 o.cp | 13 => vx = .int .i64 (memV (os.take k) + o.de + o.cp) | 14 => vx = .slice (some ⟨b2, o2, none⟩) os.length co | 15 => vx = .int .i64 (k : Nat) | 16 => vx = .pointer (some ⟨b2, o2 + k * 8, none⟩) | 17 => vx = .pointer (some ⟨b2, o2 + k * 8 + 3, none⟩) | 18 => vx = .int .i64 o.cn | 19 => vx = .int .i64 (memV (os.take k) + o.de + o.cp + o.cn) | 20 => vx = .pointer (some ⟨(p + 1 + 1), 4, none⟩) | _ => True : Nat → Value → World → Prop)) jz vs iz vz wz hiz hz) HD6.out ?_ ⟨⟨rfl, ?_⟩, ⟨rfl, ?_⟩, ⟨rfl, ?_⟩, ⟨rfl, ?_⟩, ⟨rfl, ?_⟩, ⟨rfl, ?_⟩, ⟨rfl, ?_⟩, ⟨rfl, ?_⟩, ⟨rfl, ?_⟩, ⟨rfl, ?_⟩, ⟨rfl, ?_⟩, ⟨rfl, ?_⟩, ⟨rfl, ?_⟩, ⟨rfl, ?_⟩, ⟨rfl, ?_⟩, ⟨rfl, ?_⟩, ⟨rfl, ?_⟩, ⟨rfl, ?_⟩, ⟨rfl, ?_⟩, ⟨rfl, ?_⟩, ⟨rfl, ?_⟩, trivial⟩ ?_
    ·intro vs hvs
     exact trivial
    ·intro vs Wx A lst hA hB hls hX hno hpre K hK
     have e6 := (hA 6).trans (show _ = Value.pointer (some ⟨(p + 1 + 1), 0, none⟩) by kernel_rfl)
     clear hA hpre
     go_simp
     first | exact hK _ _ hB (by trivial) (fun _ _ h => h) hX | (rw [if_neg (by omega)]; go_simp; exact hK _ _ hB rfl (fun _ _ h => h) hX)
    ·intro vs Wx A lst hA hB hls hX hno hpre K hK
     have e54 := ((hA 54).trans (show _ = vs 0 by kernel_rfl)).trans (by repeat first | exact hpre.1 rfl | replace hpre := hpre.2)
     obtain ⟨hxh, ⟨o0, o1, oo2, o3, o4, o5, o6, o7⟩⟩ := HX6.out Wx hB
     obtain ⟨q0, q1, q2, q3, q4, q5⟩ := six hxh
     clear hxh
     clear hA hpre
     go_simp
     first | exact hK _ _ hB (by trivial) (fun _ _ h => h) hX | (rw [if_neg (by omega)]; go_simp; exact hK _ _ hB rfl (fun _ _ h => h) hX)
    ·intro vs Wx A lst hA hB hls hX hno hpre K hK
     have e1 := (hA 1).trans (show _ = Value.slice (some ⟨b2, o2, none⟩) os.length co by kernel_rfl)
     clear hA hpre
     go_simp
     first | exact hK _ _ hB (by trivial) (fun _ _ h => h) hX | (rw [if_neg (by omega)]; go_simp; exact hK _ _ hB rfl (fun _ _ h => h) hX)
    ·intro vs Wx A lst hA hB hls hX hno hpre K hK
     have e7 := (hA 7).trans (show _ = Value.int .i64 (k : Nat) by kernel_rfl)
     clear hA hpre
     go_simp
     first | exact hK _ _ hB (by trivial) (fun _ _ h => h) hX | (rw [if_neg (by omega)]; go_simp; exact hK _ _ hB rfl (fun _ _ h => h) hX)
    ·intro vs Wx A lst hA hB hls hX hno hpre K hK
     have e56 := ((hA 56).trans (show _ = vs 2 by kernel_rfl)).trans (by repeat first | exact hpre.1 rfl | replace hpre := hpre.2)
     have e57 := ((hA 57).trans (show _ = vs 3 by kernel_rfl)).trans (by repeat first | exact hpre.1 rfl | replace hpre := hpre.2)
     clear hA hpre
     go_simp
     first | exact hK _ _ hB (by trivial) (fun _ _ h => h) hX | (rw [if_neg (by omega)]; go_simp; exact hK _ _ hB rfl (fun _ _ h => h) hX)
    ·intro vs Wx A lst hA hB hls hX hno hpre K hK
     have e58 := ((hA 58).trans (show _ = vs 4 by kernel_rfl)).trans (by repeat first | exact hpre.1 rfl | replace hpre := hpre.2)
     clear hA hpre
     go_simp
     first | exact hK _ _ hB (by trivial) (fun _ _ h => h) hX | (rw [if_neg (by omega)]; go_simp; exact hK _ _ hB rfl (fun _ _ h => h) hX)
    ·intro vs Wx A lst hA hB hls hX hno hpre K hK
     have e59 := ((hA 59).trans (show _ = vs 5 by kernel_rfl)).trans (by repeat first | exact hpre.1 rfl | replace hpre := hpre.2)
     obtain ⟨hxh, ⟨o0, o1, oo2, o3, o4, o5, o6, o7⟩⟩ := HX6.out Wx hB
     obtain ⟨q0, q1, q2, q3, q4, q5⟩ := six hxh
     clear hxh
     clear hA hpre
     go_simp
     first | exact hK _ _ hB (by trivial) (fun _ _ h => h) hX | (rw [if_neg (by omega)]; go_simp; exact hK _ _ hB rfl (fun _ _ h => h) hX)
    ·intro vs Wx A lst hA hB hls hX hno hpre K hK
     have e55 := ((hA 55).trans (show _ = vs 1 by kernel_rfl)).trans (by repeat first | exact hpre.1 rfl | replace hpre := hpre.2)
     have e60 := ((hA 60).trans (show _ = vs 6 by kernel_rfl)).trans (by repeat first | exact hpre.1 rfl | replace hpre := hpre.2)
     have hw := HW1.out
     clear hA hpre
     go_simp
     first | exact hK _ _ hB (by trivial) (fun _ _ h => h) hX | (rw [if_neg (by omega)]; go_simp; exact hK _ _ hB rfl (fun _ _ h => h) hX)
    ·intro vs Wx A lst hA hB hls hX hno hpre K hK
     have e1 := (hA 1).trans (show _ = Value.slice (some ⟨b2, o2, none⟩) os.length co by kernel_rfl)
     clear hA hpre
     go_simp
     first | exact hK _ _ hB (by trivial) (fun _ _ h => h) hX | (rw [if_neg (by omega)]; go_simp; exact hK _ _ hB rfl (fun _ _ h => h) hX)
    ·intro vs Wx A lst hA hB hls hX hno hpre K hK
     have e7 := (hA 7).trans (show _ = Value.int .i64 (k : Nat) by kernel_rfl)
     clear hA hpre
     go_simp
     first | exact hK _ _ hB (by trivial) (fun _ _ h => h) hX | (rw [if_neg (by omega)]; go_simp; exact hK _ _ hB rfl (fun _ _ h => h) hX)
    ·intro vs Wx A lst hA hB hls hX hno hpre K hK
     have e62 := ((hA 62).trans (show _ = vs 8 by kernel_rfl)).trans (by repeat first | exact hpre.1 rfl | replace hpre := hpre.2)
     have e63 := ((hA 63).trans (show _ = vs 9 by kernel_rfl)).trans (by repeat first | exact hpre.1 rfl | replace hpre := hpre.2)
     clear hA hpre
     go_simp
     first | exact hK _ _ hB (by trivial) (fun _ _ h => h) hX | (rw [if_neg (by omega)]; go_simp; exact hK _ _ hB rfl (fun _ _ h => h) hX)
    ·intro vs Wx A lst hA hB hls hX hno hpre K hK
     have e64 := ((hA 64).trans (show _ = vs 10 by kernel_rfl)).trans (by repeat first | exact hpre.1 rfl | replace hpre := hpre.2)
     clear hA hpre
     go_simp
     first | exact hK _ _ hB (by trivial) (fun _ _ h => h) hX | (rw [if_neg (by omega)]; go_simp; exact hK _ _ hB rfl (fun _ _ h => h) hX)
    ·intro vs Wx A lst hA hB hls hX hno hpre K hK
     have e65 := ((hA 65).trans (show _ = vs 11 by kernel_rfl)).trans (by repeat first | exact hpre.1 rfl | replace hpre := hpre.2)
     obtain ⟨hxh, ⟨o0, o1, oo2, o3, o4, o5, o6, o7⟩⟩ := HX6.out Wx hB
     obtain ⟨q0, q1, q2, q3, q4, q5⟩ := six hxh
     clear hxh
     clear hA hpre
     go_simp
     first | exact hK _ _ hB (by trivial) (fun _ _ h => h) hX | (rw [if_neg (by omega)]; go_simp; exact hK _ _ hB rfl (fun _ _ h => h) hX)
    ·intro vs Wx A lst hA hB hls hX hno hpre K hK
     have e61 := ((hA 61).trans (show _ = vs 7 by kernel_rfl)).trans (by repeat first | exact hpre.1 rfl | replace hpre := hpre.2)
     have e66 := ((hA 66).trans (show _ = vs 12 by kernel_rfl)).trans (by repeat first | exact hpre.1 rfl | replace hpre := hpre.2)
     have hw := HW2.out
     clear hA hpre
     go_simp
     first | exact hK _ _ hB (by trivial) (fun _ _ h => h) hX | (rw [if_neg (by omega)]; go_simp; exact hK _ _ hB rfl (fun _ _ h => h) hX)
    ·intro vs Wx A lst hA hB hls hX hno hpre K hK
     have e1 := (hA 1).trans (show _ = Value.slice (some ⟨b2, o2, none⟩) os.length co by kernel_rfl)
     clear hA hpre
     go_simp
     first | exact hK _ _ hB (by trivial) (fun _ _ h => h) hX | (rw [if_neg (by omega)]; go_simp; exact hK _ _ hB rfl (fun _ _ h => h) hX)
    ·intro vs Wx A lst hA hB hls hX hno hpre K hK
     have e7 := (hA 7).trans (show _ = Value.int .i64 (k : Nat) by kernel_rfl)
     clear hA hpre
     go_simp
     first | exact hK _ _ hB (by trivial) (fun _ _ h => h) hX | (rw [if_neg (by omega)]; go_simp; exact hK _ _ hB rfl (fun _ _ h => h) hX)
    ·intro vs Wx A lst hA hB hls hX hno hpre K hK
     have e68 := ((hA 68).trans (show _ = vs 14 by kernel_rfl)).trans (by repeat first | exact hpre.1 rfl | replace hpre := hpre.2)
     have e69 := ((hA 69).trans (show _ = vs 15 by kernel_rfl)).trans (by repeat first | exact hpre.1 rfl | replace hpre := hpre.2)
     clear hA hpre
     go_simp
     first | exact hK _ _ hB (by trivial) (fun _ _ h => h) hX | (rw [if_neg (by omega)]; go_simp; exact hK _ _ hB rfl (fun _ _ h => h) hX)
    ·intro vs Wx A lst hA hB hls hX hno hpre K hK
     have e70 := ((hA 70).trans (show _ = vs 16 by kernel_rfl)).trans (by repeat first | exact hpre.1 rfl | replace hpre := hpre.2)
     clear hA hpre
     go_simp
     first | exact hK _ _ hB (by trivial) (fun _ _ h => h) hX | (rw [if_neg (by omega)]; go_simp; exact hK _ _ hB rfl (fun _ _ h => h) hX)
    ·intro vs Wx A lst hA hB hls hX hno hpre K hK
     have e71 := ((hA 71).trans (show _ = vs 17 by kernel_rfl)).trans (by repeat first | exact hpre.1 rfl | replace hpre := hpre.2)
     obtain ⟨hxh, ⟨o0, o1, oo2, o3, o4, o5, o6, o7⟩⟩ := HX6.out Wx hB
     obtain ⟨q0, q1, q2, q3, q4, q5⟩ := six hxh
     clear hxh
     clear hA hpre
     go_simp
     first | exact hK _ _ hB (by trivial) (fun _ _ h => h) hX | (rw [if_neg (by omega)]; go_simp; exact hK _ _ hB rfl (fun _ _ h => h) hX)
    ·intro vs Wx A lst hA hB hls hX hno hpre K hK
     have e67 := ((hA 67).trans (show _ = vs 13 by kernel_rfl)).trans (by repeat first | exact hpre.1 rfl | replace hpre := hpre.2)
     have e72 := ((hA 72).trans (show _ = vs 18 by kernel_rfl)).trans (by repeat first | exact hpre.1 rfl | replace hpre := hpre.2)
     have hw := HW3.out
     clear hA hpre
     go_simp
     first | exact hK _ _ hB (by trivial) (fun _ _ h => h) hX | (rw [if_neg (by omega)]; go_simp; exact hK _ _ hB rfl (fun _ _ h => h) hX)
    ·intro vs Wx A lst hA hB hls hX hno hpre K hK
     have e6 := (hA 6).trans (show _ = Value.pointer (some ⟨(p + 1 + 1), 0, none⟩) by kernel_rfl)
     clear hA hpre
     go_simp
     first | exact hK _ _ hB (by trivial) (fun _ _ h => h) hX | (rw [if_neg (by omega)]; go_simp; exact hK _ _ hB rfl (fun _ _ h => h) hX)
    ·intro vs Wx lst hall hX hB hF
     refine fun A21 hA K21 hK21 => ?_
     have e74 := ((hA 74).trans (show _ = vs 20 by kernel_rfl)).trans (hF 20 (by decide))
     have e73 := ((hA 73).trans (show _ = vs 19 by kernel_rfl)).trans (hF 19 (by decide))
     clear hA
     obtain ⟨hxh, -⟩ := HX6.out Wx hB
     obtain ⟨q0, q1, q2, q3, q4, q5⟩ := six hxh
     obtain ⟨k0, k1, k2, k3, k4, k5⟩ := frz6 hxh
     have hs6 := HS6.out
     have HHN : Hid ((Wx.setCell ⟨p + 1 + 1, 4, none⟩ (.int .i64 (memV (os.take k) + o.de + o.cp + o.cn))).heap[p + 1 + 1]? = some (.cells (#[.string (mk c.id), .int .i64 1, .int .i64 (totB ((svsV c.lines os).take (k + 1))), .int .i64 (totP ((svsV c.lines os).take (k + 1))), .int .i64 (memV (os.take (k + 1))), (.slice u5 n5 c5)] : Array Value) 38 (0, 0))) := by
      have h1 := heap_set hxh 4 (.int .i64 (memV (os.take k) + o.de + o.cp + o.cn))
      rw [HTT.out.1, HTT.out.2, HTM.out]
      show _ = _
      rw [h1]; rfl
     have HFN : Hid (FullS (p + 3) (Wx.setCell ⟨p + 1 + 1, 4, none⟩ (.int .i64 (memV (os.take k) + o.de + o.cp + o.cn))) (.slice u5 n5 c5) (N ++ [⟨oneV l o, (.slice z.1 (casV o).length z.2)⟩])) := fullS_set (HF6.out.grw hB) (by omega) 4 _
     have HPN : Hid ((Wx.setCell ⟨p + 1 + 1, 4, none⟩ (.int .i64 (memV (os.take k) + o.de + o.cp + o.cn))).heap[p]? = some (.cells (#[.string (mk c.id), .string (mk c.mem), .string (mk c.fam), .int .i64 c.net, .int .i64 c.does, .string (mk c.ref), .slice (some ⟨b, ol, none⟩) c.lines.length cl] : Array Value) 45 (0, 0))) := heap_far (keepB HP6.out hB) (by omega)
     have HQN : Hid ((Wx.setCell ⟨p + 1 + 1, 4, none⟩ (.int .i64 (memV (os.take k) + o.de + o.cp + o.cn))).heap[p + 1]? = some (.cells (#[.string { data := #[] }, .int .i64 0, .int .i64 0, .int .i64 0, .int .i64 0, .slice none 0 0] : Array Value) 38 (0, 0))) := heap_far (keepB HQ6.out hB) (by omega)
     have HBN : Hid (Below p w (Wx.setCell ⟨p + 1 + 1, 4, none⟩ (.int .i64 (memV (os.take k) + o.de + o.cp + o.cn)))) := (HB6.out.trans (hB.mono (by omega))).setCell (p := ⟨p + 1 + 1, 4, none⟩) (show p ≤ p + 1 + 1 by omega) _
     have HSN : Hid (p + 3 ≤ (Wx.setCell ⟨p + 1 + 1, 4, none⟩ (.int .i64 (memV (os.take k) + o.de + o.cp + o.cn))).heap.size) := by show _ ≤ _; have h1 := hB.size; simp; omega
     clear hxh hs6
     go_simp
     refine hK21 undef _ ?_
     clear q0 q1 q2 q3 q4 q5 k0 k1 k2 k3 k4 k5
     clear hX hall hF hB
     simp only [Ri.Tail, Ri.puts]
     go_simp
     generalize (Wx.setCell ⟨p + 1 + 1, 4, none⟩ (.int .i64 (memV (os.take k) + o.de + o.cp + o.cn))) = WF at *
     go_wp2
     go_roundg (os.length - (k + 1))
     case measure => omega
     case rel => exact ⟨k + 1, N ++ [Sx.mk (oneV l o) (.slice z.1 (casV o).length z.2)], u5, n5, c5, by omega, rfl, by first | rfl | go_num, HHN.out, HFN.out, HMN.out, HPN.out, HQN.out, HBN.out, HSN.out⟩
  ·have hltz : ¬ (k : Int) < (os.length : Int) := by omega
   have hko : os.take k = os := List.take_of_length_le (by omega)
   have hkl : (svsV c.lines os).take k = (svsV c.lines os) := List.take_of_length_le (by have := HV.out; omega)
   have HHE : Hid (wr.heap[p + 1 + 1]? = some (.cells (#[.string (mk c.id), .int .i64 1, .int .i64 (totB (svsV c.lines os)), .int .i64 (totP (svsV c.lines os)), .int .i64 (memV os), .slice u n q] : Array Value) 38 (0, 0))) := by
    have h1 := HH.out
    rw [hko, hkl] at h1
    exact h1
   have HSV : Hid (SvsAt (fun b => p + 3 ≤ b) wr (.slice u n q) (svsV c.lines os)) := by
    have h1 := HF.out.at
    rw [HN.out, hkl] at h1
    exact h1
   have HCK : Hid (Calls Try.prog 32 #[.agg #[.string (mk c.id), .int .i64 1, .int .i64 (totB (svsV c.lines os)), .int .i64 (totP (svsV c.lines os)), .int .i64 (memV os), .slice u n q]] wr fun e w' => e = .returned (.int .i64 (checkE (raw c os))) ∧ Below wr.heap.size wr w') := rcheck_any (raw c os) (.slice u n q) wr HSV.out.all HRO.out
   have HYS : Hid (ofE c os = 0 → ∀ W, Below p w W → SvsAt (fun b => p + 3 ≤ b) W (.slice u n q) (svsV c.lines os) → OfV c os w (.returned (.tuple #[.agg #[.string (mk c.id), .int .i64 1, .int .i64 (totB (svsV c.lines os)), .int .i64 (totP (svsV c.lines os)), .int .i64 (memV os), .slice u n q], .int .i64 0])) W) := fun h0 W hb hs => by
    refine ⟨⟨.slice u n q, ?_, ?_⟩, by rw [hp]; exact hb⟩
    ·rw [of_yes h0, h0]; rfl
    ·rw [of_yes h0]
     exact hs.move (moves_weak W fun b _ hk => by rw [hp]; omega)
   have HIE := Lib.hid HIN.out
   clear HH HF HN HIN HRO HAT HBT HBM HSM hko hkl HL HO x0 x1 x2 x3 x4 x5 x6
   obtain ⟨q0, q1, q2, q3, q4, q5⟩ := six HHE.out
   generalize checkE (raw c os) = E at *
   by_cases hE : E = 0
   ·have HQ := Lib.hid (HYS.out (HIE.out.trans hE))
    subst hE
    go_wp2_with (first | (go_at_call 32; refine (HCK.out).mono ?_; rintro e w7 ⟨rfl, hb7⟩; have HS8 : Hid (SvsAt (fun b => p + 3 ≤ b) w7 (.slice u n q) (svsV c.lines os)) := HSV.out.move ⟨hb7.size, fun b hb hk => ⟨hk, hb7.block b hb⟩⟩; have hh8 := keepB HHE.out hb7; have HY8 := Lib.hid (keepB HY.out hb7); have HB8 : Hid (Below p w w7) := HBn.out.trans (hb7.mono (by have := HPn.out; omega)); obtain ⟨q0, q1, q2, q3, q4, q5⟩ := six hh8; obtain ⟨y0, y1, y2, y3, y4, y5⟩ := six HY8.out; obtain ⟨fz0, fz1, fz2, fz3, fz4, fz5⟩ := frz6 HY8.out; clear hb7 hh8))
    have HYF := Lib.hid (put6_heap HY8.out (.string (mk c.id)) (.int .i64 1) (.int .i64 (totB (svsV c.lines os))) (.int .i64 (totP (svsV c.lines os))) (.int .i64 (memV os)) (.slice u n q))
    have HBF : Hid (Below p w ((((((w7.setCell ⟨(p + 1), 0, none⟩ (.string (mk c.id))).setCell ⟨(p + 1), 1, none⟩ (.int .i64 1)).setCell ⟨(p + 1), 2, none⟩ (.int .i64 (totB (svsV c.lines os)))).setCell ⟨(p + 1), 3, none⟩ (.int .i64 (totP (svsV c.lines os)))).setCell ⟨(p + 1), 4, none⟩ (.int .i64 (memV os))).setCell ⟨(p + 1), 5, none⟩ (.slice u n q))) := put6_below HB8.out (p + 1) (by omega) (.string (mk c.id)) (.int .i64 1) (.int .i64 (totB (svsV c.lines os))) (.int .i64 (totP (svsV c.lines os))) (.int .i64 (memV os)) (.slice u n q)
    have HSF : Hid (SvsAt (fun b => p + 3 ≤ b) ((((((w7.setCell ⟨(p + 1), 0, none⟩ (.string (mk c.id))).setCell ⟨(p + 1), 1, none⟩ (.int .i64 1)).setCell ⟨(p + 1), 2, none⟩ (.int .i64 (totB (svsV c.lines os)))).setCell ⟨(p + 1), 3, none⟩ (.int .i64 (totP (svsV c.lines os)))).setCell ⟨(p + 1), 4, none⟩ (.int .i64 (memV os))).setCell ⟨(p + 1), 5, none⟩ (.slice u n q)) (.slice u n q) (svsV c.lines os)) := HS8.out.move ⟨by simp, fun b hb hk => ⟨hk, put6_keep (show b ≠ p + 1 by omega) (.string (mk c.id)) (.int .i64 1) (.int .i64 (totB (svsV c.lines os))) (.int .i64 (totP (svsV c.lines os))) (.int .i64 (memV os)) (.slice u n q)⟩⟩
    generalize ((((((w7.setCell ⟨(p + 1), 0, none⟩ (.string (mk c.id))).setCell ⟨(p + 1), 1, none⟩ (.int .i64 1)).setCell ⟨(p + 1), 2, none⟩ (.int .i64 (totB (svsV c.lines os)))).setCell ⟨(p + 1), 3, none⟩ (.int .i64 (totP (svsV c.lines os)))).setCell ⟨(p + 1), 4, none⟩ (.int .i64 (memV os))).setCell ⟨(p + 1), 5, none⟩ (.slice u n q)) = WF at *
    obtain ⟨n0, n1, n2, n3, n4, n5⟩ := six HYF.out
    refine bodyPost_ret (v := .tuple #[.agg (#[.string (mk c.id), .int .i64 1, .int .i64 (totB (svsV c.lines os)), .int .i64 (totP (svsV c.lines os)), .int .i64 (memV os), .slice u n q] : Array Value), .int .i64 0]) (by simp [results, Try.results40, go_sem, n0, n1, n2, n3, n4, n5]) rfl ?_
    exact HQ.out WF HBF.out HSF.out
   ·have hb0 : (E != 0) = true := by simpa using hE
    have HQ := Lib.hid fun w' => HNO.out E w' HIE.out hE
    clear hE
    go_wp2_with (first | (go_at_call 32; refine (HCK.out).mono ?_; rintro e w7 ⟨rfl, hb7⟩; have HS8 : Hid (SvsAt (fun b => p + 3 ≤ b) w7 (.slice u n q) (svsV c.lines os)) := HSV.out.move ⟨hb7.size, fun b hb hk => ⟨hk, hb7.block b hb⟩⟩; have hh8 := keepB HHE.out hb7; have HY8 := Lib.hid (keepB HY.out hb7); have HB8 : Hid (Below p w w7) := HBn.out.trans (hb7.mono (by have := HPn.out; omega)); obtain ⟨q0, q1, q2, q3, q4, q5⟩ := six hh8; obtain ⟨y0, y1, y2, y3, y4, y5⟩ := six HY8.out; obtain ⟨fz0, fz1, fz2, fz3, fz4, fz5⟩ := frz6 HY8.out; clear hb7 hh8))
    have HYF := Lib.hid (put6_heap HY8.out (.string { data := #[] }) (.int .i64 0) (.int .i64 0) (.int .i64 0) (.int .i64 0) (.slice none 0 0))
    have HBF : Hid (Below p w ((((((w7.setCell ⟨(p + 1), 0, none⟩ (.string { data := #[] })).setCell ⟨(p + 1), 1, none⟩ (.int .i64 0)).setCell ⟨(p + 1), 2, none⟩ (.int .i64 0)).setCell ⟨(p + 1), 3, none⟩ (.int .i64 0)).setCell ⟨(p + 1), 4, none⟩ (.int .i64 0)).setCell ⟨(p + 1), 5, none⟩ (.slice none 0 0))) := put6_below HB8.out (p + 1) (by omega) _ _ _ _ _ _
    generalize ((((((w7.setCell ⟨(p + 1), 0, none⟩ (.string { data := #[] })).setCell ⟨(p + 1), 1, none⟩ (.int .i64 0)).setCell ⟨(p + 1), 2, none⟩ (.int .i64 0)).setCell ⟨(p + 1), 3, none⟩ (.int .i64 0)).setCell ⟨(p + 1), 4, none⟩ (.int .i64 0)).setCell ⟨(p + 1), 5, none⟩ (.slice none 0 0)) = WF at *
    obtain ⟨n0, n1, n2, n3, n4, n5⟩ := six HYF.out
    refine bodyPost_ret (v := .tuple #[.agg (#[.string { data := #[] }, .int .i64 0, .int .i64 0, .int .i64 0, .int .i64 0, .slice none 0 0] : Array Value), .int .i64 (E)]) (by simp [results, Try.results40, go_sem, n0, n1, n2, n3, n4, n5]) rfl ?_
    first | exact HQ.out _ HBF.out | exact HQ.out _ (by rw [hp]; exact HBF.out)
end Go.Proofs.Ytpfpjbeofogbgaa.Sv
end
