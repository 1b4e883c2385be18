/-
  Texts put together (merge.py): VOf.
-/
import Derived.Deep.DeepCutAuto
import Derived.Test.YtpfpjbeofogbgaaMm10
set_option linter.unusedSimpArgs false
set_option linter.unusedVariables false
section
set_option maxRecDepth 100000
namespace Go.Proofs.Ytpfpjbeofogbgaa.Sv
open Go.RowKit
open Sh (Ot)
open Cm (Ln Cl LnsAt clv ClOk codeB)
open Bk (keepB below_alloc below_trans alloc_new heap_set heap_far OtsAt)
theorem frz6 {w : World} {b : Nat} {cs : Array Value} {T : TypeId} (h : w.heap[b]? = some (.cells cs T (0, 0))) : w.frozen? ⟨b, 0, none⟩ = false ∧ w.frozen? ⟨b, 1, none⟩ = false ∧ w.frozen? ⟨b, 2, none⟩ = false ∧ w.frozen? ⟨b, 3, none⟩ = false ∧ w.frozen? ⟨b, 4, none⟩ = false ∧ w.frozen? ⟨b, 5, none⟩ = false := by
 refine ⟨?_, ?_, ?_, ?_, ?_, ?_⟩ <;> simp [World.frozen?, h]
theorem put6_heap {W : World} {b : Nat} {c0 c1 c2 c3 c4 c5 : Value} {T : TypeId} (h : W.heap[b]? = some (.cells #[c0, c1, c2, c3, c4, c5] T (0, 0))) (a0 a1 a2 a3 a4 a5 : Value) : ((((((W.setCell ⟨b, 0, none⟩ a0).setCell ⟨b, 1, none⟩ a1).setCell ⟨b, 2, none⟩ a2).setCell ⟨b, 3, none⟩ a3).setCell ⟨b, 4, none⟩ a4).setCell ⟨b, 5, none⟩ a5).heap[b]? = some (.cells #[a0, a1, a2, a3, a4, a5] T (0, 0)) := by
 have h0 := heap_set h 0 a0
 have h1 := heap_set h0 1 a1
 have h2 := heap_set h1 2 a2
 have h3 := heap_set h2 3 a3
 have h4 := heap_set h3 4 a4
 have h5 := heap_set h4 5 a5
 rw [h5]; rfl
theorem put6_keep {W : World} {b q : Nat} (hne : b ≠ q) (a0 a1 a2 a3 a4 a5 : Value) : ((((((W.setCell ⟨q, 0, none⟩ a0).setCell ⟨q, 1, none⟩ a1).setCell ⟨q, 2, none⟩ a2).setCell ⟨q, 3, none⟩ a3).setCell ⟨q, 4, none⟩ a4).setCell ⟨q, 5, none⟩ a5).heap[b]? = W.heap[b]? := by
 repeat rw [Below.heap_setCell _ _ _ _ hne]
theorem put6_below {B : Nat} {w W : World} (h : Below B w W) (b : Nat) (hb : B ≤ b) (a0 a1 a2 a3 a4 a5 : Value) : Below B w ((((((W.setCell ⟨b, 0, none⟩ a0).setCell ⟨b, 1, none⟩ a1).setCell ⟨b, 2, none⟩ a2).setCell ⟨b, 3, none⟩ a3).setCell ⟨b, 4, none⟩ a4).setCell ⟨b, 5, none⟩ a5) :=
 (((((h.setCell (p := ⟨b, 0, none⟩) hb a0).setCell (p := ⟨b, 1, none⟩) hb a1).setCell (p := ⟨b, 2, none⟩) hb a2).setCell (p := ⟨b, 3, none⟩) hb a3).setCell (p := ⟨b, 4, none⟩) hb a4).setCell (p := ⟨b, 5, none⟩) hb a5
theorem put3_heap {W : World} {b : Nat} {c0 c1 c2 c3 c4 c5 : Value} {T : TypeId} (h : W.heap[b]? = some (.cells #[c0, c1, c2, c3, c4, c5] T (0, 0))) (a2 a3 a4 : Value) : (((W.setCell ⟨b, 2, none⟩ a2).setCell ⟨b, 3, none⟩ a3).setCell ⟨b, 4, none⟩ a4).heap[b]? = some (.cells #[c0, c1, a2, a3, a4, c5] T (0, 0)) := by
 have h2 := heap_set h 2 a2
 have h3 := heap_set h2 3 a3
 have h4 := heap_set h3 4 a4
 rw [h4]; rfl
theorem put3_keep {W : World} {b q : Nat} (hne : b ≠ q) (a2 a3 a4 : Value) : (((W.setCell ⟨q, 2, none⟩ a2).setCell ⟨q, 3, none⟩ a3).setCell ⟨q, 4, none⟩ a4).heap[b]? = W.heap[b]? := by
 repeat rw [Below.heap_setCell _ _ _ _ hne]
theorem put3_below {B : Nat} {w W : World} (h : Below B w W) (b : Nat) (hb : B ≤ b) (a2 a3 a4 : Value) : Below B w (((W.setCell ⟨b, 2, none⟩ a2).setCell ⟨b, 3, none⟩ a3).setCell ⟨b, 4, none⟩ a4) :=
 ((h.setCell (p := ⟨b, 2, none⟩) hb a2).setCell (p := ⟨b, 3, none⟩) hb a3).setCell (p := ⟨b, 4, none⟩) hb a4
theorem seven {w : World} {q : Nat} {a0 a1 a2 a3 a4 a5 a6 : Value} {T : TypeId} (h : w.heap[q]? = some (.cells #[a0, a1, a2, a3, a4, a5, a6] T (0, 0))) : w.cell? ⟨q, 0, none⟩ = some a0 ∧ w.cell? ⟨q, 1, none⟩ = some a1 ∧ w.cell? ⟨q, 2, none⟩ = some a2 ∧ w.cell? ⟨q, 3, none⟩ = some a3 ∧ w.cell? ⟨q, 4, none⟩ = some a4 ∧ w.cell? ⟨q, 5, none⟩ = some a5 ∧ w.cell? ⟨q, 6, none⟩ = some a6 := by
 refine ⟨?_, ?_, ?_, ?_, ?_, ?_, ?_⟩ <;> rw [cell_of_row w q _ _ T (0, 0) h] <;> rfl
def Sm (c : Cl) (os : List Ot) : Prop := (∀ l ∈ c.lines, Bd l.billed) ∧ ∀ o ∈ os, Bd o.plan ∧ Bd o.wr ∧ Bd o.pr ∧ Bd o.de ∧ Bd o.cp ∧ Bd o.cn
theorem svs_at : ∀ (ls : List Ln) (os : List Ot) (k : Nat) (l : Ln) (o : Ot), ls[k]? = some l → os[k]? = some o → (svsV ls os)[k]? = some (oneV l o)
 | [], _, _, _, _, h, _ => by simp at h
 | _ :: _, [], _, _, _, _, h => by simp at h
 | x :: ls, y :: os, 0, l, o, h1, h2 => by simp at h1 h2; subst h1 h2; rfl
 | x :: ls, y :: os, k + 1, l, o, h1, h2 => by simpa [svsV] using svs_at ls os k l o (by simpa using h1) (by simpa using h2)
theorem svs_mem : ∀ (ls : List Ln) (os : List Ot) (s : Sr), s ∈ svsV ls os → ∃ l o, l ∈ ls ∧ o ∈ os ∧ s = oneV l o
 | [], _, s, h => by simp [svsV] at h
 | _ :: _, [], s, h => by simp [svsV] at h
 | x :: ls, y :: os, s, h => by
  simp only [svsV, List.mem_cons] at h
  rcases h with rfl | h
  ·exact ⟨x, y, List.mem_cons_self .., List.mem_cons_self .., rfl⟩
  ·obtain ⟨l, o, h1, h2, h3⟩ := svs_mem ls os s h
   exact ⟨l, o, List.mem_cons_of_mem _ h1, List.mem_cons_of_mem _ h2, h3⟩
theorem one_bd {c : Cl} {os : List Ot} (h : Sm c os) {s : Sr} (hs : s ∈ svsV c.lines os) : BdS s := by
 obtain ⟨l, o, h1, h2, rfl⟩ := svs_mem _ _ _ hs
 obtain ⟨b1, b2, b3, b4, b5, b6⟩ := h.2 o h2
 refine ⟨h.1 l h1, b1, Nat.le_trans (List.length_filter_le ..) (by simp [five]), fun x hx => ?_⟩
 obtain ⟨c1, -⟩ := List.mem_filter.1 hx
 simp only [five, List.mem_cons, List.not_mem_nil, or_false] at c1
 rcases c1 with rfl | rfl | rfl | rfl | rfl
 ·exact b2
 ·exact b4
 ·exact b6
 ·exact b5
 ·exact b3
theorem bd_i64 {n : Int} (h : Bd n) : I64 n := by unfold Bd at h; unfold I64; omega
theorem tots_bd : ∀ (l : List Sr), (∀ s ∈ l, BdS s) → (-(1125899906842624 * (l.length : Int)) ≤ totB l ∧ totB l ≤ 1125899906842624 * (l.length : Int)) ∧ (-(1125899906842624 * (l.length : Int)) ≤ totP l ∧ totP l ≤ 1125899906842624 * (l.length : Int)) ∧ (-(5629499534213120 * (l.length : Int)) ≤ totM l ∧ totM l ≤ 5629499534213120 * (l.length : Int))
 | [], _ => by simp [totB, totP, totM]
 | s :: l, h => by
  have a := tots_bd l fun x hx => h x (List.mem_cons_of_mem _ hx)
  obtain ⟨⟨b1, b2⟩, ⟨b3, b4⟩, b5, b6⟩ := h s (List.mem_cons_self ..)
  have b := sumP_bd s.cas b5 b6
  simp only [totB, totP, totM, List.length_cons]
  push_cast
  omega
theorem raw_ok {c : Cl} {os : List Ot} (h : Sm c os) (hz : ClOk c) (hl : os.length = c.lines.length) (hn : os.length ≤ 999) : CpOk (raw c os) := by
 have t := tots_bd (svsV c.lines os) fun s hs => one_bd h hs
 have L := svs_len c.lines os hl
 rw [L] at t
 refine ⟨by simp [raw, I64], ?_, ?_, ?_, hz.2.2.1, ?_, fun s hs => ?_⟩
 iterate 2
  ·simp only [raw, I64]; omega
 ·have e := mem_tot c.lines os hl
  simp only [raw, I64]; rw [← e]; omega
 ·simp only [raw]; omega
 ·obtain ⟨b1, b2, b3, b4⟩ := one_bd h hs
  refine ⟨bd_i64 b1, bd_i64 b2, fun x hx => bd_i64 (b4 x hx), ?_⟩
  obtain ⟨l, o, h1, h2, rfl⟩ := svs_mem _ _ _ hs
  exact (hz.2.2.2.2.2.2.2 l h1).2.2.2.2.1
theorem of_len {c : Cl} {os : List Ot} (h : os.length ≠ c.lines.length) : ofE c os = 1 := if_neg h
theorem of_head {c : Cl} {os : List Ot} (h : os.length = c.lines.length) (h2 : headE c.id 1 os.length ≠ 0) : ofE c os = headE c.id 1 os.length := by
 unfold ofE
 rw [if_pos h]
 have L := svs_len c.lines os h
 have e : headE (raw c os).id (raw c os).st (raw c os).svs.length = headE c.id 1 os.length := by
  show headE c.id 1 ((svsV c.lines os).length : Nat) = _
  rw [L, h]
 rw [← e] at h2 ⊢
 exact check_head _ h2
theorem of_in {c : Cl} {os : List Ot} (h : os.length = c.lines.length) : ofE c os = checkE (raw c os) := if_pos h
theorem of_no {c : Cl} {os : List Ot} (h : ofE c os ≠ 0) : ofV c os = cp0 := if_neg h
theorem of_yes {c : Cl} {os : List Ot} (h : ofE c os = 0) : ofV c os = raw c os := if_pos h
def OfV (c : Cl) (os : List Ot) (w : World) (e : Ending) (w' : World) : Prop := (∃ u, e = .returned (.tuple #[cpv (ofV c os) u, .int .i64 (ofE c os)]) ∧ SvsAt (fun b => w.heap.size ≤ b) w' u (ofV c os).svs) ∧ Below w.heap.size w w'
theorem ofV_no {c : Cl} {os : List Ot} {w w' : World} {E : Int} (h : ofE c os = E) (hE : E ≠ 0) (hb : Below w.heap.size w w') : OfV c os w (.returned (.tuple #[cpv cp0 (.slice none 0 0), .int .i64 E])) w' := by
 subst h
 refine ⟨⟨_, by rw [of_no hE], ?_⟩, hb⟩
 rw [of_no hE]
 exact SvsAt.nil _ _
set_option maxHeartbeats 16000000 in
theorem of_any (c : Cl) (m : Value) (os : List Ot) (mo : Value) (w : World) (hm : LnsAt All w m c.lines) (ho : OtsAt All w mo os) (hz : ClOk c) (hs : Sm c os) :
  Calls Try.prog 35 #[clv c m, mo] w fun e w' => OfV c os w e w' := by
 obtain ⟨al, cl, rfl, f1, f2⟩ := Cm.LnsAt.form hm
 obtain ⟨ao, co, rfl, f3, f4⟩ := ho.form
 have hb0 : Below w.heap.size w ((w.alloc (.cells (#[.string (mk c.id), .string (mk c.mem), .string (mk c.fam), .int .i64 c.net, .int .i64 c.does, .string (mk c.ref), .slice al c.lines.length cl] : Array Value) 45)).alloc (.cells (#[.string { data := #[] }, .int .i64 0, .int .i64 0, .int .i64 0, .int .i64 0, .slice none 0 0] : Array Value) 38)) := below_trans (below_alloc w _) (below_alloc _ _)
 have HB := Lib.hid hb0
 have HX := Lib.hid (keepB (alloc_new w (#[.string (mk c.id), .string (mk c.mem), .string (mk c.fam), .int .i64 c.net, .int .i64 c.does, .string (mk c.ref), .slice al c.lines.length cl] : Array Value) 45) (below_alloc _ (.cells (#[.string { data := #[] }, .int .i64 0, .int .i64 0, .int .i64 0, .int .i64 0, .slice none 0 0] : Array Value) 38)))
 have HY := Lib.hid (alloc_new (w.alloc (.cells (#[.string (mk c.id), .string (mk c.mem), .string (mk c.fam), .int .i64 c.net, .int .i64 c.does, .string (mk c.ref), .slice al c.lines.length cl] : Array Value) 45)) (#[.string { data := #[] }, .int .i64 0, .int .i64 0, .int .i64 0, .int .i64 0, .slice none 0 0] : Array Value) 38)
 rw [show (w.alloc (.cells (#[.string (mk c.id), .string (mk c.mem), .string (mk c.fam), .int .i64 c.net, .int .i64 c.does, .string (mk c.ref), .slice al c.lines.length cl] : Array Value) 45)).heap.size = w.heap.size + 1 by simp] at HY
 have HS0 : Hid (w.heap.size + 2 ≤ ((w.alloc (.cells (#[.string (mk c.id), .string (mk c.mem), .string (mk c.fam), .int .i64 c.net, .int .i64 c.does, .string (mk c.ref), .slice al c.lines.length cl] : Array Value) 45)).alloc (.cells (#[.string { data := #[] }, .int .i64 0, .int .i64 0, .int .i64 0, .int .i64 0, .slice none 0 0] : Array Value) 38)).heap.size) := by show _ ≤ _; simp
 have HL : Hid (∀ W, Below w.heap.size w W → LnsAt All W (.slice al c.lines.length cl) c.lines) := fun W hW => hm.move (Below.moves hW)
 have HO : Hid (∀ W, Below w.heap.size w W → OtsAt All W (.slice ao os.length co) os) := fun W hW => ho.grw hW
 have HH := Lib.hid fun w => head_any c.id 1 os.length w (by have := hz.2.2.1; omega)
 clear hm ho hb0
 have HNO : Hid (∀ E w', ofE c os = E → E ≠ 0 → Below w.heap.size w w' → OfV c os w (.returned (.tuple #[cpv cp0 (.slice none 0 0), .int .i64 E])) w') := fun E w' h hE hb => ofV_no h hE hb
 by_cases hl : os.length = c.lines.length
 case neg =>
  have hlb : ((os.length : Int) != (c.lines.length : Int)) = true := by simp; omega
  have HQ := Lib.hid fun w' => HNO.out 1 w' (of_len hl) (by decide)
  clear hl hs hz HNO
  go_enter Try.func35, Try.ntmps35
  go_upto_region 1 with fail
  generalize ((w.alloc (.cells (#[.string (mk c.id), .string (mk c.mem), .string (mk c.fam), .int .i64 c.net, .int .i64 c.does, .string (mk c.ref), .slice al c.lines.length cl] : Array Value) 45)).alloc (.cells (#[.string { data := #[] }, .int .i64 0, .int .i64 0, .int .i64 0, .int .i64 0, .slice none 0 0] : Array Value) 38)) = W at *
  generalize hp : w.heap.size = p at *
  obtain ⟨x0, x1, x2, x3, x4, x5, x6⟩ := seven HX.out
  obtain ⟨y0, y1, y2, y3, y4, y5⟩ := six HY.out
  obtain ⟨z0, z1, z2, z3, z4, z5⟩ := frz6 HY.out
  go_wp2
  have HYF := Lib.hid (put6_heap HY.out (.string { data := #[] }) (.int .i64 0) (.int .i64 0) (.int .i64 0) (.int .i64 0) (.slice none 0 0))
  have HBF : Hid (Below p w ((((((W.setCell ⟨(p + 1), 0, none⟩ (.string { data := #[] })).setCell ⟨(p + 1), 1, none⟩ (.int .i64 0)).setCell ⟨(p + 1), 2, none⟩ (.int .i64 0)).setCell ⟨(p + 1), 3, none⟩ (.int .i64 0)).setCell ⟨(p + 1), 4, none⟩ (.int .i64 0)).setCell ⟨(p + 1), 5, none⟩ (.slice none 0 0))) := put6_below HB.out (p + 1) (by omega) _ _ _ _ _ _
  generalize ((((((W.setCell ⟨(p + 1), 0, none⟩ (.string { data := #[] })).setCell ⟨(p + 1), 1, none⟩ (.int .i64 0)).setCell ⟨(p + 1), 2, none⟩ (.int .i64 0)).setCell ⟨(p + 1), 3, none⟩ (.int .i64 0)).setCell ⟨(p + 1), 4, none⟩ (.int .i64 0)).setCell ⟨(p + 1), 5, none⟩ (.slice none 0 0)) = WF at *
  obtain ⟨n0, n1, n2, n3, n4, n5⟩ := six HYF.out
  refine bodyPost_ret (v := .tuple #[.agg (#[.string { data := #[] }, .int .i64 0, .int .i64 0, .int .i64 0, .int .i64 0, .slice none 0 0] : Array Value), .int .i64 (1)]) (by simp [results, Try.results35, go_sem, n0, n1, n2, n3, n4, n5]) rfl ?_
  first | exact HQ.out _ HBF.out | exact HQ.out _ (by rw [hp]; exact HBF.out)
 have hlb : ((os.length : Int) != (c.lines.length : Int)) = false := by rw [hl]; simp
 have HLE := Lib.hid hl
 have hl2 : os.length ≤ c.lines.length := by omega
 by_cases h0 : headE c.id 1 os.length = 0
 case neg =>
  have hb0 : (headE c.id 1 os.length != 0) = true := by simpa using h0
  have HQ := Lib.hid fun w' => HNO.out _ w' (of_head hl h0) h0
  clear hl hs hz HNO
  generalize headE c.id 1 os.length = E at *
  clear h0
  go_enter Try.func35, Try.ntmps35
  go_upto_region 1 with fail
  generalize ((w.alloc (.cells (#[.string (mk c.id), .string (mk c.mem), .string (mk c.fam), .int .i64 c.net, .int .i64 c.does, .string (mk c.ref), .slice al c.lines.length cl] : Array Value) 45)).alloc (.cells (#[.string { data := #[] }, .int .i64 0, .int .i64 0, .int .i64 0, .int .i64 0, .slice none 0 0] : Array Value) 38)) = W at *
  generalize hp : w.heap.size = p at *
  obtain ⟨x0, x1, x2, x3, x4, x5, x6⟩ := seven HX.out
  obtain ⟨y0, y1, y2, y3, y4, y5⟩ := six HY.out
  obtain ⟨z0, z1, z2, z3, z4, z5⟩ := frz6 HY.out
  go_wp2_with (first | (go_at_call 41; refine (HH.out _).mono ?_; rintro e w' ⟨rfl, hw⟩; rw [hw]; clear hw w'))
  have HYF := Lib.hid (put6_heap HY.out (.string { data := #[] }) (.int .i64 0) (.int .i64 0) (.int .i64 0) (.int .i64 0) (.slice none 0 0))
  have HBF : Hid (Below p w ((((((W.setCell ⟨(p + 1), 0, none⟩ (.string { data := #[] })).setCell ⟨(p + 1), 1, none⟩ (.int .i64 0)).setCell ⟨(p + 1), 2, none⟩ (.int .i64 0)).setCell ⟨(p + 1), 3, none⟩ (.int .i64 0)).setCell ⟨(p + 1), 4, none⟩ (.int .i64 0)).setCell ⟨(p + 1), 5, none⟩ (.slice none 0 0))) := put6_below HB.out (p + 1) (by omega) _ _ _ _ _ _
  generalize ((((((W.setCell ⟨(p + 1), 0, none⟩ (.string { data := #[] })).setCell ⟨(p + 1), 1, none⟩ (.int .i64 0)).setCell ⟨(p + 1), 2, none⟩ (.int .i64 0)).setCell ⟨(p + 1), 3, none⟩ (.int .i64 0)).setCell ⟨(p + 1), 4, none⟩ (.int .i64 0)).setCell ⟨(p + 1), 5, none⟩ (.slice none 0 0)) = WF at *
  obtain ⟨n0, n1, n2, n3, n4, n5⟩ := six HYF.out
  refine bodyPost_ret (v := .tuple #[.agg (#[.string { data := #[] }, .int .i64 0, .int .i64 0, .int .i64 0, .int .i64 0, .slice none 0 0] : Array Value), .int .i64 (E)]) (by simp [results, Try.results35, go_sem, n0, n1, n2, n3, n4, n5]) rfl ?_
  first | exact HQ.out _ HBF.out | exact HQ.out _ (by rw [hp]; exact HBF.out)
 rw [h0] at HH
 have hn := (head_0 h0).2.2
 have HV : Hid ((svsV c.lines os).length = os.length) := by show _ = _; rw [svs_len c.lines os hl, hl]
 have HAT : Hid (∀ k l o, c.lines[k]? = some l → os[k]? = some o → (svsV c.lines os)[k]? = some (oneV l o)) := svs_at c.lines os
 have HRO := Lib.hid (raw_ok hs hz hl (by omega))
 have HBD : Hid (∀ s ∈ svsV c.lines os, BdS s) := fun s h => one_bd hs h
 have HMT := Lib.hid (mem_tot c.lines os hl)
 have HIN := Lib.hid (of_in hl)
 clear hl hs h0 hz
 have hn1 : (os.length : Int) ≤ 999 := hn.2
 have hn2 : os.length ≤ 999 := by omega
 clear hn
 go_enter Try.func35, Try.ntmps35
 go_upto_region 1 with fail
 generalize ((w.alloc (.cells (#[.string (mk c.id), .string (mk c.mem), .string (mk c.fam), .int .i64 c.net, .int .i64 c.does, .string (mk c.ref), .slice al c.lines.length cl] : Array Value) 45)).alloc (.cells (#[.string { data := #[] }, .int .i64 0, .int .i64 0, .int .i64 0, .int .i64 0, .slice none 0 0] : Array Value) 38)) = W at *
 generalize hp : w.heap.size = p at *
 obtain ⟨x0, x1, x2, x3, x4, x5, x6⟩ := seven HX.out
 obtain ⟨y0, y1, y2, y3, y4, y5⟩ := six HY.out
 obtain ⟨z0, z1, z2, z3, z4, z5⟩ := frz6 HY.out
 go_wp2_with (first | (go_at_call 41; refine (HH.out _).mono ?_; rintro e w' ⟨rfl, hw⟩; rw [hw]; clear hw w'))
 have HD := Lib.hid (Below.drew (Below.refl W.heap.size W))
 have HX2 : Hid (∀ W', Below W.heap.size W W' → W'.heap[p]? = some (.cells (#[.string (mk c.id), .string (mk c.mem), .string (mk c.fam), .int .i64 c.net, .int .i64 c.does, .string (mk c.ref), .slice al c.lines.length cl] : Array Value) 45 (0, 0)) ∧ W'.heap[p + 1]? = some (.cells (#[.string { data := #[] }, .int .i64 0, .int .i64 0, .int .i64 0, .int .i64 0, .slice none 0 0] : Array Value) 38 (0, 0))) := fun W' hW => ⟨keepB HX.out hW, keepB HY.out hW⟩
 have HMK := Lib.hid (run_make_svs os.length (by omega))
 have HST : Hid (∀ W' : World, (W'.alloc (.cells (madeCells #[.string ByteArray.empty, .int .i64 0, .int .i64 0, .slice none 0 0] (os.length * 4)) Ts)).rowIs W'.heap.size Ts ((svsV c.lines os).length * 4) (hrow (svsV c.lines os) (fun _ => undef) 0)) := fun W' => (Half.start 0 W' (svsV c.lines os) (fun _ => undef) os.length HV.out.symm).1
 go_cut [7] (fun s7 wx => ∃ (g h : Nat), s7 = .pointer (some ⟨h, 0, none⟩) ∧ Hid (wx.rowIs g Ts ((svsV c.lines os).length * 4) (hrow (svsV c.lines os) (fun _ => undef) 0)) ∧ Hid (wx.heap[h]? = some (.cells (#[.string (mk c.id), .int .i64 1, .int .i64 0, .int .i64 0, .int .i64 0, .slice (some ⟨g, 0, none⟩) os.length os.length] : Array Value) 38 (0, 0))) ∧ Hid (wx.heap[p]? = some (.cells (#[.string (mk c.id), .string (mk c.mem), .string (mk c.fam), .int .i64 c.net, .int .i64 c.does, .string (mk c.ref), .slice al c.lines.length cl] : Array Value) 45 (0, 0))) ∧ Hid (wx.heap[p + 1]? = some (.cells (#[.string { data := #[] }, .int .i64 0, .int .i64 0, .int .i64 0, .int .i64 0, .slice none 0 0] : Array Value) 38 (0, 0))) ∧ Hid (Below p w wx) ∧ Hid (p + 2 ≤ g ∧ p + 2 ≤ h ∧ g ≠ h))
 case first =>
  refine Ri.wp_region_tailX 7 (by kernel_rfl) (by kernel_rfl) (by kernel_rfl) (by decide) (by kernel_rfl) (fun Wx => Below W.heap.size W Wx) (fun kz vs wz => (fun kx vx wx => match kx with | 0 => vx = .pointer (some ⟨p, 0, none⟩) | 1 => vx = .string (mk c.id) | 2 => vx = .slice ao os.length co | 3 => vx = .int .i64 (os.length : Nat) | 4 => (∃ g : Nat, vx = .slice (some ⟨g, 0, none⟩) os.length os.length ∧ W.heap.size ≤ g ∧ wx.rowIs g Ts ((svsV c.lines os).length * 4) (hrow (svsV c.lines os) (fun _ => undef) 0)) | 5 => (∃ g : Nat, vx = .agg (#[.string (mk c.id), .int .i64 1, .int .i64 0, .int .i64 0, .int .i64 0, .slice (some ⟨g, 0, none⟩) os.length os.length] : Array Value) ∧ W.heap.size ≤ g ∧ wx.rowIs g Ts ((svsV c.lines os).length * 4) (hrow (svsV c.lines os) (fun _ => undef) 0)) | 6 => (∃ h : Nat, vx = .pointer (some ⟨h, 0, none⟩) ∧ W.heap.size ≤ h ∧ wx.heap[h]? = some (.cells (#[.string { data := #[] }, .int .i64 0, .int .i64 0, .int .i64 0, .int .i64 0, .slice none 0 0] : Array Value) 38 (0, 0))) | _ => True : Nat → Value → World → Prop) kz (vs kz) wz) (fun lst vs => True) (fun kz => [kz]) (by kernel_rfl) (fun jz vs iz vz wz hiz hz => Ri.loc_own (F := (fun kx vx wx => match kx with | 0 => vx = .pointer (some ⟨p, 0, none⟩) | 1 => vx = .string (mk c.id) | 2 => vx = .slice ao os.length co | 3 => vx = .int .i64 (os.length : Nat) | 4 => (∃ g : Nat, vx = .slice (some ⟨g, 0, none⟩) os.length os.length ∧ W.heap.size ≤ g ∧ wx.rowIs g Ts ((svsV c.lines os).length * 4) (hrow (svsV c.lines os) (fun _ => undef) 0)) | 5 => (∃ g : Nat, vx = .agg (#[.string (mk c.id), .int .i64 1, .int .i64 0, .int .i64 0, .int .i64 0, .slice (some ⟨g, 0, none⟩) os.length os.length] : Array Value) ∧ W.heap.size ≤ g ∧ wx.rowIs g Ts ((svsV c.lines os).length * 4) (hrow (svsV c.lines os) (fun _ => undef) 0)) | 6 => (∃ h : Nat, vx = .pointer (some ⟨h, 0, none⟩) ∧ W.heap.size ≤ h ∧ wx.heap[h]? = some (.cells (#[.string { data := #[] }, .int .i64 0, .int .i64 0, .int .i64 0, .int .i64 0, .slice none 0 0] : Array Value) 38 (0, 0))) | _ => True : Nat → Value → World → Prop)) jz vs iz vz wz hiz hz) HD.out ?_ ⟨⟨rfl, ?_⟩, ⟨rfl, ?_⟩, ⟨rfl, ?_⟩, ⟨rfl, ?_⟩, ⟨rfl, ?_⟩, ⟨rfl, ?_⟩, ⟨rfl, ?_⟩, trivial⟩ ?_
  ·intro vs hvs
   exact trivial
  ·intro vs Wx A lst hA hB hls hX hno hpre K hK
   have e2 := (hA 2).trans (show _ = Value.pointer (some ⟨p, 0, none⟩) by kernel_rfl)
   clear hA hpre
   go_simp
   first | exact hK _ _ hB (by trivial) (fun _ _ h => h) hX | (rw [if_neg (by omega)]; go_simp; exact hK _ _ hB rfl (fun _ _ h => h) hX)
  ·intro vs Wx A lst hA hB hls hX hno hpre K hK
   have e26 := ((hA 26).trans (show _ = vs 0 by kernel_rfl)).trans (by repeat first | exact hpre.1 rfl | replace hpre := hpre.2)
   obtain ⟨hx, hy⟩ := HX2.out Wx hB
   obtain ⟨x0, x1, x2, x3, x4, x5, x6⟩ := seven hx
   clear hx hy
   clear hA hpre
   go_simp
   first | exact hK _ _ hB (by trivial) (fun _ _ h => h) hX | (rw [if_neg (by omega)]; go_simp; exact hK _ _ hB rfl (fun _ _ h => h) hX)
  ·intro vs Wx A lst hA hB hls hX hno hpre K hK
   have e1 := (hA 1).trans (show _ = Value.slice ao os.length co by kernel_rfl)
   clear hA hpre
   go_simp
   first | exact hK _ _ hB (by trivial) (fun _ _ h => h) hX | (rw [if_neg (by omega)]; go_simp; exact hK _ _ hB rfl (fun _ _ h => h) hX)
  ·intro vs Wx A lst hA hB hls hX hno hpre K hK
   have e28 := ((hA 28).trans (show _ = vs 2 by kernel_rfl)).trans (by repeat first | exact hpre.1 rfl | replace hpre := hpre.2)
   clear hA hpre
   go_simp
   first | exact hK _ _ hB (by trivial) (fun _ _ h => h) hX | (rw [if_neg (by omega)]; go_simp; exact hK _ _ hB rfl (fun _ _ h => h) hX)
  ·intro vs Wx A lst hA hB hls hX hno hpre K hK
   have e29 := ((hA 29).trans (show _ = vs 3 by kernel_rfl)).trans (by repeat first | exact hpre.1 rfl | replace hpre := hpre.2)
   have hmk := HMK.out
   clear hA hpre
   go_simp
   refine hK _ _ (below_trans hB (below_alloc Wx _)) ⟨_, rfl, hB.size, HST.out Wx⟩ (fun jz hj hz => ?_) hX
   match jz, hj, hz with
   | 0, _, hz => exact hz
   | 1, _, hz => exact hz
   | 2, _, hz => exact hz
   | 3, _, hz => exact hz
   | 4, hj, _ => exact absurd rfl hj
   | 5, _, hz => exact (hz.elim fun g h => ⟨g, h.1, h.2.1, h.2.2.alloc _⟩)
   | 6, _, hz => exact (hz.elim fun g h => ⟨g, h.1, h.2.1, keepB h.2.2 (below_alloc Wx _)⟩)
   | n + 7, _, hz => exact hz
  ·intro vs Wx A lst hA hB hls hX hno hpre K hK
   have e27 := ((hA 27).trans (show _ = vs 1 by kernel_rfl)).trans (by repeat first | exact hpre.1 rfl | replace hpre := hpre.2)
   have hx4 : (∃ g : Nat, vs 4 = .slice (some ⟨g, 0, none⟩) os.length os.length ∧ W.heap.size ≤ g ∧ Wx.rowIs g Ts ((svsV c.lines os).length * 4) (hrow (svsV c.lines os) (fun _ => undef) 0)) := by repeat first | exact hpre.1 rfl | replace hpre := hpre.2
   obtain ⟨gx4, hv4, hh4⟩ := hx4
   have e30 := ((hA 30).trans (show _ = vs 4 by kernel_rfl)).trans hv4
   clear hA hpre
   go_simp
   exact hK _ _ hB ⟨gx4, rfl, hh4⟩ (fun _ _ h => h) hX
  ·intro vs Wx A lst hA hB hls hX hno hpre K hK
   clear hA hpre
   go_simp
   refine hK _ _ (below_trans hB (below_alloc Wx _)) ⟨_, rfl, hB.size, heap_alloc_new Wx _⟩ (fun jz hj hz => ?_) hX
   match jz, hj, hz with
   | 0, _, hz => exact hz
   | 1, _, hz => exact hz
   | 2, _, hz => exact hz
   | 3, _, hz => exact hz
   | 4, _, hz => exact (hz.elim fun g h => ⟨g, h.1, h.2.1, h.2.2.alloc _⟩)
   | 5, _, hz => exact (hz.elim fun g h => ⟨g, h.1, h.2.1, h.2.2.alloc _⟩)
   | 6, hj, _ => exact absurd rfl hj
   | n + 7, _, hz => exact hz
  ·intro vs Wx lst hall hX hB hF
   refine fun A7 hA K7 hK7 => ?_
   have e7 := (hA 7).trans (show _ = vs 6 by kernel_rfl)
   have e31 := (hA 31).trans (show _ = vs 5 by kernel_rfl)
   clear hA
   obtain ⟨g, ea, hga, hra⟩ := hF 5 (by decide)
   obtain ⟨h, eb, hhb, hcb⟩ := hF 6 (by decide)
   rw [ea] at e31
   rw [eb] at e7
   have hgh : g ≠ h := fun e => by obtain ⟨cs, hc, -, -⟩ := hra; rw [e, hcb] at hc; simp only [Option.some.injEq, Obj.cells.injEq] at hc; exact absurd hc.2.1 (by decide)
   obtain ⟨q0, q1, q2, q3, q4, q5⟩ := six hcb
   obtain ⟨k0, k1, k2, k3, k4, k5⟩ := frz6 hcb
   have hsz := HS0.out
   have HNA : Hid (((((((Wx.setCell ⟨h, 0, none⟩ (.string (mk c.id))).setCell ⟨h, 1, none⟩ (.int .i64 1)).setCell ⟨h, 2, none⟩ (.int .i64 0)).setCell ⟨h, 3, none⟩ (.int .i64 0)).setCell ⟨h, 4, none⟩ (.int .i64 0)).setCell ⟨h, 5, none⟩ (.slice (some ⟨g, 0, none⟩) os.length os.length)).heap[h]? = some (.cells (#[.string (mk c.id), .int .i64 1, .int .i64 0, .int .i64 0, .int .i64 0, .slice (some ⟨g, 0, none⟩) os.length os.length] : Array Value) 38 (0, 0))) := put6_heap hcb (.string (mk c.id)) (.int .i64 1) (.int .i64 0) (.int .i64 0) (.int .i64 0) (.slice (some ⟨g, 0, none⟩) os.length os.length)
   have HRA : Hid (((((((Wx.setCell ⟨h, 0, none⟩ (.string (mk c.id))).setCell ⟨h, 1, none⟩ (.int .i64 1)).setCell ⟨h, 2, none⟩ (.int .i64 0)).setCell ⟨h, 3, none⟩ (.int .i64 0)).setCell ⟨h, 4, none⟩ (.int .i64 0)).setCell ⟨h, 5, none⟩ (.slice (some ⟨g, 0, none⟩) os.length os.length)).rowIs g Ts ((svsV c.lines os).length * 4) (hrow (svsV c.lines os) (fun _ => undef) 0)) := hra.of_block (put6_keep hgh (.string (mk c.id)) (.int .i64 1) (.int .i64 0) (.int .i64 0) (.int .i64 0) (.slice (some ⟨g, 0, none⟩) os.length os.length))
   have HPA : Hid (((((((Wx.setCell ⟨h, 0, none⟩ (.string (mk c.id))).setCell ⟨h, 1, none⟩ (.int .i64 1)).setCell ⟨h, 2, none⟩ (.int .i64 0)).setCell ⟨h, 3, none⟩ (.int .i64 0)).setCell ⟨h, 4, none⟩ (.int .i64 0)).setCell ⟨h, 5, none⟩ (.slice (some ⟨g, 0, none⟩) os.length os.length)).heap[p]? = some (.cells (#[.string (mk c.id), .string (mk c.mem), .string (mk c.fam), .int .i64 c.net, .int .i64 c.does, .string (mk c.ref), .slice al c.lines.length cl] : Array Value) 45 (0, 0))) := (put6_keep (show p ≠ h by omega) (.string (mk c.id)) (.int .i64 1) (.int .i64 0) (.int .i64 0) (.int .i64 0) (.slice (some ⟨g, 0, none⟩) os.length os.length)).trans (HX2.out Wx hB).1
   have HPB : Hid (((((((Wx.setCell ⟨h, 0, none⟩ (.string (mk c.id))).setCell ⟨h, 1, none⟩ (.int .i64 1)).setCell ⟨h, 2, none⟩ (.int .i64 0)).setCell ⟨h, 3, none⟩ (.int .i64 0)).setCell ⟨h, 4, none⟩ (.int .i64 0)).setCell ⟨h, 5, none⟩ (.slice (some ⟨g, 0, none⟩) os.length os.length)).heap[p + 1]? = some (.cells (#[.string { data := #[] }, .int .i64 0, .int .i64 0, .int .i64 0, .int .i64 0, .slice none 0 0] : Array Value) 38 (0, 0))) := (put6_keep (show p + 1 ≠ h by omega) (.string (mk c.id)) (.int .i64 1) (.int .i64 0) (.int .i64 0) (.int .i64 0) (.slice (some ⟨g, 0, none⟩) os.length os.length)).trans (HX2.out Wx hB).2
   have HBP : Hid (Below p w ((((((Wx.setCell ⟨h, 0, none⟩ (.string (mk c.id))).setCell ⟨h, 1, none⟩ (.int .i64 1)).setCell ⟨h, 2, none⟩ (.int .i64 0)).setCell ⟨h, 3, none⟩ (.int .i64 0)).setCell ⟨h, 4, none⟩ (.int .i64 0)).setCell ⟨h, 5, none⟩ (.slice (some ⟨g, 0, none⟩) os.length os.length))) := put6_below (HB.out.trans (hB.mono (by omega))) h (by omega) (.string (mk c.id)) (.int .i64 1) (.int .i64 0) (.int .i64 0) (.int .i64 0) (.slice (some ⟨g, 0, none⟩) os.length os.length)
   have HEB := Lib.hid eb
   have HGH : Hid (p + 2 ≤ g ∧ p + 2 ≤ h ∧ g ≠ h) := ⟨by omega, by omega, hgh⟩
   clear hcb hra
   go_simp
   refine hK7 undef _ ?_
   clear q0 q1 q2 q3 q4 q5 k0 k1 k2 k3 k4 k5
   clear hX hall hF hB
   simp only [Ri.Tail, Ri.puts]
   go_simp
   go_wp2_with fail
   go_meet
   exact ⟨g, h, by first | exact HEB.out | (go_simp; exact HEB.out) | (simpa [Ri.upd] using HEB.out), HRA.out, HNA.out, HPA.out, HPB.out, HBP.out, HGH.out⟩
 case rest =>
  obtain ⟨g, h, rfl, HRA, HNA, HPA, HPB, HBP, HGH⟩ := hcut
  clear x0 x1 x2 x3 x4 x5 x6 y0 y1 y2 y3 y4 y5 z0 z1 z2 z3 z4 z5 HX HY HX2 HMK HST HD HS0 HB
  obtain ⟨x0, x1, x2, x3, x4, x5⟩ := six HNA.out
  obtain ⟨Bs, hBs⟩ : ∃ z, wc.heap.size = z := ⟨_, rfl⟩
  have HGB : Hid (g < Bs ∧ h < Bs ∧ p + 1 < Bs) := ⟨by have := HRA.out.lt; omega, by have := (Array.getElem?_eq_some_iff.1 HNA.out).1; omega, by have := (Array.getElem?_eq_some_iff.1 HPB.out).1; omega⟩
  have HBs := Lib.hid (show Bs ≤ wc.heap.size by omega)
  have HHF : Hid (Half Bs g wc (svsV c.lines os) 0 (fun _ => undef)) := ⟨HRA.out, fun j s _ hj => absurd hj (by omega)⟩
  clear hBs HRA
  go_wp2
  go_loopg [34] (os.length) (fun gg t34 wr => ∃ (k : Nat) (M : Nat → Value), k ≤ os.length ∧ gg = os.length - k ∧ t34 = .int .i64 k ∧ Hid (Half Bs g wr (svsV c.lines os) k M) ∧ Hid (wr.heap[h]? = some (.cells (#[.string (mk c.id), .int .i64 1, .int .i64 0, .int .i64 0, .int .i64 0, .slice (some ⟨g, 0, none⟩) os.length os.length] : Array Value) 38 (0, 0))) ∧ Hid (wr.heap[p]? = some (.cells (#[.string (mk c.id), .string (mk c.mem), .string (mk c.fam), .int .i64 c.net, .int .i64 c.does, .string (mk c.ref), .slice al c.lines.length cl] : Array Value) 45 (0, 0))) ∧ Hid (wr.heap[p + 1]? = some (.cells (#[.string { data := #[] }, .int .i64 0, .int .i64 0, .int .i64 0, .int .i64 0, .slice none 0 0] : Array Value) 38 (0, 0))) ∧ Hid (Below p w wr) ∧ Hid (Bs ≤ wr.heap.size))
  case atStart => exact ⟨0, (fun _ => undef), Nat.zero_le _, rfl, rfl, HHF.out, HNA.out, HPA.out, HPB.out, HBP.out, HBs.out⟩
  case round =>
   clear x0 x1 x2 x3 x4 x5 HNA HPA HPB HBP HHF HBs
   obtain ⟨k, M, hk, hgk, rfl, HHF, HNA, HPA, HPB, HBP, HBs⟩ := hrel
   obtain ⟨x0, x1, x2, x3, x4, x5⟩ := six HNA.out
   by_cases hlt : k < os.length
   ·have hltz : (k : Int) < (os.length : Int) := by omega
    have hlt2 : k < c.lines.length := by omega
    have hlt3 : k < (svsV c.lines os).length := by have := HV.out; omega
    obtain ⟨b, ol, ml, rfl, hx, hcx, hmx⟩ := Cm.LnsAt.get (HL.out _ HBP.out) k hlt2
    obtain ⟨b2, o2, rfl, hbl2, hy, hcy⟩ := OtsAt.get (HO.out _ HBP.out) k hlt
    have hbl := World.block_lt_of_cell? wr _ hcx.1
    have HLK := Lib.hid (HAT.out k _ _ hx hy)
    obtain ⟨am, cm, rfl, -, -⟩ := Cm.TxAt.form hmx
    have hi1 : k < os.length := hlt
    have hi2 : k < c.lines.length := hlt2
    generalize c.lines[k] = l at *
    generalize os[k] = o at *
    obtain ⟨wo, rfl⟩ : ∃ z, z = wr := ⟨_, rfl⟩
    have HXK : Hid (∀ W', Below wo.heap.size wo W' → W'.heap[p]? = some (.cells (#[.string (mk c.id), .string (mk c.mem), .string (mk c.fam), .int .i64 c.net, .int .i64 c.does, .string (mk c.ref), .slice (some ⟨b, ol, none⟩) c.lines.length cl] : Array Value) 45 (0, 0)) ∧ W'.heap[h]? = some (.cells (#[.string (mk c.id), .int .i64 1, .int .i64 0, .int .i64 0, .int .i64 0, .slice (some ⟨g, 0, none⟩) os.length os.length] : Array Value) 38 (0, 0)) ∧ Cm.LnCells W' b (ol + k * 6) l (.slice am l.mods.length cm) ∧ Bk.OtCells W' b2 (o2 + k * 8) o) := fun W' hW => ⟨keepB HPA.out hW, keepB HNA.out hW, hcx.of (hW.block b hbl), hcy.of (hW.block b2 hbl2)⟩
    clear hx hy hcx hcy hmx hbl hbl2
    have HD := Lib.hid (Below.drew (Below.refl wo.heap.size wo))
    go_upto_region 10 with fail
    refine Ri.wp_region_tailX 14 (by kernel_rfl) (by kernel_rfl) (by kernel_rfl) (by decide) (by kernel_rfl) (fun Wx => Below wo.heap.size wo Wx) (fun kz vs wz => (fun kx vx wx => match kx with | 0 => vx = .pointer (some ⟨h, 5, none⟩) | 1 => vx = .slice (some ⟨g, 0, none⟩) os.length os.length | 2 => vx = .int .i64 (k : Nat) | 3 => vx = .pointer (some ⟨p, 6, none⟩) | 4 => vx = .slice (some ⟨b, ol, none⟩) c.lines.length cl | 5 => vx = .int .i64 (k : Nat) | 6 => vx = .pointer (some ⟨b, ol + k * 6, none⟩) | 7 => vx = Cm.lnv l (.slice am l.mods.length cm) | 8 => vx = .slice (some ⟨b2, o2, none⟩) os.length co | 9 => vx = .int .i64 (k : Nat) | 10 => vx = .pointer (some ⟨b2, o2 + k * 8, none⟩) | 11 => vx = .agg #[.int .i64 o.al, .int .i64 o.de, .int .i64 o.cp, .int .i64 o.cn, .int .i64 o.plan, .int .i64 o.wr, .int .i64 o.pr, .int .i64 o.deny] | 12 => (∃ z : Option Addr × Nat, vx = srv (oneV l o) (.slice z.1 (casV o).length z.2) ∧ CasAt (fun b => wo.heap.size ≤ b) wx (.slice z.1 (casV o).length z.2) (casV o)) | 13 => vx = .pointer (some ⟨g, k * 4, none⟩) | _ => True : Nat → Value → World → Prop) kz (vs kz) wz) (fun lst vs => True) (fun kz => [kz]) (by kernel_rfl) (fun jz vs iz vz wz hiz hz => Ri.loc_own (F := (fun kx vx wx => match kx with | 0 => vx = .pointer (some ⟨h, 5, none⟩) | 1 => vx = .slice (some ⟨g, 0, none⟩) os.length os.length | 2 => vx = .int .i64 (k : Nat) | 3 => vx = .pointer (some ⟨p, 6, none⟩) | 4 => vx = .slice (some ⟨b, ol, none⟩) c.lines.length cl | 5 => vx = .int .i64 (k : Nat) | 6 => vx = .pointer (some ⟨b, ol + k * 6, none⟩) | 7 => vx = Cm.lnv l (.slice am l.mods.length cm) | 8 => vx = .slice (some ⟨b2, o2, none⟩) os.length co | 9 => vx = .int .i64 (k : Nat) | 10 => vx = .pointer (some ⟨b2, o2 + k * 8, none⟩) | 11 => vx = .agg #[.int .i64 o.al, .int .i64 o.de, .int .i64 o.cp, .int .i64 o.cn, .int .i64 o.plan, .int .i64 o.wr, .int .i64 o.pr, .int .i64 o.deny] | 12 => (∃ z : Option Addr × Nat, vx = srv (oneV l o) (.slice z.1 (casV o).length z.2) ∧ CasAt (fun b => wo.heap.size ≤ b) wx (.slice z.1 (casV o).length z.2) (casV o)) | 13 => vx = .pointer (some ⟨g, k * 4, none⟩) | _ => True : Nat → Value → World → Prop)) jz vs iz vz wz hiz hz) HD.out ?_ ⟨⟨rfl, ?_⟩, ⟨rfl, ?_⟩, ⟨rfl, ?_⟩, ⟨rfl, ?_⟩, ⟨rfl, ?_⟩, ⟨rfl, ?_⟩, ⟨rfl, ?_⟩, ⟨rfl, ?_⟩, ⟨rfl, ?_⟩, ⟨rfl, ?_⟩, ⟨rfl, ?_⟩, ⟨rfl, ?_⟩, ⟨rfl, ?_⟩, ⟨rfl, ?_⟩, trivial⟩ ?_
    ·intro vs hvs
     exact trivial
    ·intro vs Wx A lst hA hB hls hX hno hpre K hK
     have e7 := (hA 7).trans (show _ = Value.pointer (some ⟨h, 0, none⟩) by kernel_rfl)
     clear hA hpre
     go_simp
     first | exact hK _ _ hB (by trivial) (fun _ _ h => h) hX | (rw [if_neg (by omega)]; go_simp; exact hK _ _ hB rfl (fun _ _ h => h) hX)
    ·intro vs Wx A lst hA hB hls hX hno hpre K hK
     have e37 := ((hA 37).trans (show _ = vs 0 by kernel_rfl)).trans (by repeat first | exact hpre.1 rfl | replace hpre := hpre.2)
     obtain ⟨hxp, hxh, ⟨l0, l1, l2, l3, l4, l5⟩, ⟨o0, o1, oo2, o3, o4, o5, o6, o7⟩⟩ := HXK.out Wx hB
     obtain ⟨x0, x1, x2, x3, x4, x5, x6⟩ := seven hxp
     obtain ⟨y0, y1, y2, y3, y4, y5⟩ := six hxh
     clear hxp hxh
     clear hA hpre
     go_simp
     first | exact hK _ _ hB (by trivial) (fun _ _ h => h) hX | (rw [if_neg (by omega)]; go_simp; exact hK _ _ hB rfl (fun _ _ h => h) hX)
    ·intro vs Wx A lst hA hB hls hX hno hpre K hK
     have e8 := (hA 8).trans (show _ = Value.int .i64 (k : Nat) by kernel_rfl)
     clear hA hpre
     go_simp
     first | exact hK _ _ hB (by trivial) (fun _ _ h => h) hX | (rw [if_neg (by omega)]; go_simp; exact hK _ _ hB rfl (fun _ _ h => h) hX)
    ·intro vs Wx A lst hA hB hls hX hno hpre K hK
     have e2 := (hA 2).trans (show _ = Value.pointer (some ⟨p, 0, none⟩) by kernel_rfl)
     clear hA hpre
     go_simp
     first | exact hK _ _ hB (by trivial) (fun _ _ h => h) hX | (rw [if_neg (by omega)]; go_simp; exact hK _ _ hB rfl (fun _ _ h => h) hX)
    ·intro vs Wx A lst hA hB hls hX hno hpre K hK
     have e40 := ((hA 40).trans (show _ = vs 3 by kernel_rfl)).trans (by repeat first | exact hpre.1 rfl | replace hpre := hpre.2)
     obtain ⟨hxp, hxh, ⟨l0, l1, l2, l3, l4, l5⟩, ⟨o0, o1, oo2, o3, o4, o5, o6, o7⟩⟩ := HXK.out Wx hB
     obtain ⟨x0, x1, x2, x3, x4, x5, x6⟩ := seven hxp
     obtain ⟨y0, y1, y2, y3, y4, y5⟩ := six hxh
     clear hxp hxh
     clear hA hpre
     go_simp
     first | exact hK _ _ hB (by trivial) (fun _ _ h => h) hX | (rw [if_neg (by omega)]; go_simp; exact hK _ _ hB rfl (fun _ _ h => h) hX)
    ·intro vs Wx A lst hA hB hls hX hno hpre K hK
     have e8 := (hA 8).trans (show _ = Value.int .i64 (k : Nat) by kernel_rfl)
     clear hA hpre
     go_simp
     first | exact hK _ _ hB (by trivial) (fun _ _ h => h) hX | (rw [if_neg (by omega)]; go_simp; exact hK _ _ hB rfl (fun _ _ h => h) hX)
    ·intro vs Wx A lst hA hB hls hX hno hpre K hK
     have e41 := ((hA 41).trans (show _ = vs 4 by kernel_rfl)).trans (by repeat first | exact hpre.1 rfl | replace hpre := hpre.2)
     have e42 := ((hA 42).trans (show _ = vs 5 by kernel_rfl)).trans (by repeat first | exact hpre.1 rfl | replace hpre := hpre.2)
     clear hA hpre
     go_simp
     first | exact hK _ _ hB (by trivial) (fun _ _ h => h) hX | (rw [if_neg (by omega)]; go_simp; exact hK _ _ hB rfl (fun _ _ h => h) hX)
    ·intro vs Wx A lst hA hB hls hX hno hpre K hK
     have e43 := ((hA 43).trans (show _ = vs 6 by kernel_rfl)).trans (by repeat first | exact hpre.1 rfl | replace hpre := hpre.2)
     obtain ⟨hxp, hxh, ⟨l0, l1, l2, l3, l4, l5⟩, ⟨o0, o1, oo2, o3, o4, o5, o6, o7⟩⟩ := HXK.out Wx hB
     obtain ⟨x0, x1, x2, x3, x4, x5, x6⟩ := seven hxp
     obtain ⟨y0, y1, y2, y3, y4, y5⟩ := six hxh
     clear hxp hxh
     clear hA hpre
     go_simp
     first | exact hK _ _ hB (by trivial) (fun _ _ h => h) hX | (rw [if_neg (by omega)]; go_simp; exact hK _ _ hB rfl (fun _ _ h => h) hX)
    ·intro vs Wx A lst hA hB hls hX hno hpre K hK
     have e1 := (hA 1).trans (show _ = Value.slice (some ⟨b2, o2, none⟩) os.length co by kernel_rfl)
     clear hA hpre
     go_simp
     first | exact hK _ _ hB (by trivial) (fun _ _ h => h) hX | (rw [if_neg (by omega)]; go_simp; exact hK _ _ hB rfl (fun _ _ h => h) hX)
    ·intro vs Wx A lst hA hB hls hX hno hpre K hK
     have e8 := (hA 8).trans (show _ = Value.int .i64 (k : Nat) by kernel_rfl)
     clear hA hpre
     go_simp
     first | exact hK _ _ hB (by trivial) (fun _ _ h => h) hX | (rw [if_neg (by omega)]; go_simp; exact hK _ _ hB rfl (fun _ _ h => h) hX)
    ·intro vs Wx A lst hA hB hls hX hno hpre K hK
     have e45 := ((hA 45).trans (show _ = vs 8 by kernel_rfl)).trans (by repeat first | exact hpre.1 rfl | replace hpre := hpre.2)
     have e46 := ((hA 46).trans (show _ = vs 9 by kernel_rfl)).trans (by repeat first | exact hpre.1 rfl | replace hpre := hpre.2)
     clear hA hpre
     go_simp
     first | exact hK _ _ hB (by trivial) (fun _ _ h => h) hX | (rw [if_neg (by omega)]; go_simp; exact hK _ _ hB rfl (fun _ _ h => h) hX)
    ·intro vs Wx A lst hA hB hls hX hno hpre K hK
     have e47 := ((hA 47).trans (show _ = vs 10 by kernel_rfl)).trans (by repeat first | exact hpre.1 rfl | replace hpre := hpre.2)
     obtain ⟨hxp, hxh, ⟨l0, l1, l2, l3, l4, l5⟩, ⟨o0, o1, oo2, o3, o4, o5, o6, o7⟩⟩ := HXK.out Wx hB
     obtain ⟨x0, x1, x2, x3, x4, x5, x6⟩ := seven hxp
     obtain ⟨y0, y1, y2, y3, y4, y5⟩ := six hxh
     clear hxp hxh
     clear hA hpre
     go_simp
     first | exact hK _ _ hB (by trivial) (fun _ _ h => h) hX | (rw [if_neg (by omega)]; go_simp; exact hK _ _ hB rfl (fun _ _ h => h) hX)
    ·intro vs Wx A lst hA hB hls hX hno hpre K hK
     have e44 := ((hA 44).trans (show _ = vs 7 by kernel_rfl)).trans (by repeat first | exact hpre.1 rfl | replace hpre := hpre.2)
     have e48 := ((hA 48).trans (show _ = vs 11 by kernel_rfl)).trans (by repeat first | exact hpre.1 rfl | replace hpre := hpre.2)
     clear hA hpre
     go_simp
     go_at_call 49
     refine (service_any l (.slice am l.mods.length cm) o Wx ⟨_, _, _, rfl⟩).mono ?_
     rintro e w4 ⟨v', rfl, ho, hg⟩
     obtain ⟨ua, uc, rfl, -, -⟩ := ownK_form ho
     refine hK _ _ (below_trans hB hg) ⟨(ua, uc), rfl, cas_of_own ho (fun b hb' => by have := hB.size; omega)⟩ (fun jz hj hz => ?_) hX
     match jz, hj, hz with
     | 0, _, hz => exact hz
     | 1, _, hz => exact hz
     | 2, _, hz => exact hz
     | 3, _, hz => exact hz
     | 4, _, hz => exact hz
     | 5, _, hz => exact hz
     | 6, _, hz => exact hz
     | 7, _, hz => exact hz
     | 8, _, hz => exact hz
     | 9, _, hz => exact hz
     | 10, _, hz => exact hz
     | 11, _, hz => exact hz
     | 12, hj, _ => exact absurd rfl hj
     | 13, _, hz => exact hz
     | n + 14, _, hz => exact hz
    ·intro vs Wx A lst hA hB hls hX hno hpre K hK
     have e38 := ((hA 38).trans (show _ = vs 1 by kernel_rfl)).trans (by repeat first | exact hpre.1 rfl | replace hpre := hpre.2)
     have e39 := ((hA 39).trans (show _ = vs 2 by kernel_rfl)).trans (by repeat first | exact hpre.1 rfl | replace hpre := hpre.2)
     clear hA hpre
     go_simp
     first | exact hK _ _ hB (by trivial) (fun _ _ h => h) hX | (rw [if_neg (by omega)]; go_simp; exact hK _ _ hB rfl (fun _ _ h => h) hX)
    ·intro vs Wx lst hall hX hB hF
     refine fun A14 hA K14 hK14 => ?_
     have e50 := ((hA 50).trans (show _ = vs 13 by kernel_rfl)).trans (hF 13 (by decide))
     have e49 := (hA 49).trans (show _ = vs 12 by kernel_rfl)
     clear hA
     obtain ⟨z, ez, hc⟩ := hF 12 (by decide)
     rw [ez] at e49
     have hh := HHF.out.grw hB
     obtain ⟨⟨v0, g0⟩, ⟨v1, g1⟩, ⟨v2, g2⟩, ⟨v3, g3⟩⟩ := hh.cells hlt3
     have fz0 := hh.1.frozen (k * 4)
     have fz1 := hh.1.frozen (k * 4 + 1)
     have fz2 := hh.1.frozen (k * 4 + 2)
     have fz3 := hh.1.frozen (k * 4 + 3)
     have hgh := HGH.out
     have hgb := HGB.out
     have HNF : Hid (Half Bs g ((((Wx.setCell ⟨g, k * 4, none⟩ (.string (mk (oneV l o).proc))).setCell ⟨g, k * 4 + 1, none⟩ (.int .i64 (oneV l o).bi)).setCell ⟨g, k * 4 + 2, none⟩ (.int .i64 (oneV l o).paid)).setCell ⟨g, k * 4 + 3, none⟩ (.slice z.1 (casV o).length z.2)) (svsV c.lines os) (k + 1) (fun i => if i = k then (.slice z.1 (casV o).length z.2) else M i)) := HHF.out.step HBs.out hB HLK.out hc
     have HN1 : Hid (((((Wx.setCell ⟨g, k * 4, none⟩ (.string (mk (oneV l o).proc))).setCell ⟨g, k * 4 + 1, none⟩ (.int .i64 (oneV l o).bi)).setCell ⟨g, k * 4 + 2, none⟩ (.int .i64 (oneV l o).paid)).setCell ⟨g, k * 4 + 3, none⟩ (.slice z.1 (casV o).length z.2)).heap[h]? = some (.cells (#[.string (mk c.id), .int .i64 1, .int .i64 0, .int .i64 0, .int .i64 0, .slice (some ⟨g, 0, none⟩) os.length os.length] : Array Value) 38 (0, 0))) := (show ((((Wx.setCell ⟨g, k * 4, none⟩ (.string (mk (oneV l o).proc))).setCell ⟨g, k * 4 + 1, none⟩ (.int .i64 (oneV l o).bi)).setCell ⟨g, k * 4 + 2, none⟩ (.int .i64 (oneV l o).paid)).setCell ⟨g, k * 4 + 3, none⟩ (.slice z.1 (casV o).length z.2)).heap[h]? = Wx.heap[h]? from (by repeat rw [Below.heap_setCell _ _ _ _ (show h ≠ g by omega)])).trans (HXK.out Wx hB).2.1
     have HN2 : Hid (((((Wx.setCell ⟨g, k * 4, none⟩ (.string (mk (oneV l o).proc))).setCell ⟨g, k * 4 + 1, none⟩ (.int .i64 (oneV l o).bi)).setCell ⟨g, k * 4 + 2, none⟩ (.int .i64 (oneV l o).paid)).setCell ⟨g, k * 4 + 3, none⟩ (.slice z.1 (casV o).length z.2)).heap[p]? = some (.cells (#[.string (mk c.id), .string (mk c.mem), .string (mk c.fam), .int .i64 c.net, .int .i64 c.does, .string (mk c.ref), .slice (some ⟨b, ol, none⟩) c.lines.length cl] : Array Value) 45 (0, 0))) := (show ((((Wx.setCell ⟨g, k * 4, none⟩ (.string (mk (oneV l o).proc))).setCell ⟨g, k * 4 + 1, none⟩ (.int .i64 (oneV l o).bi)).setCell ⟨g, k * 4 + 2, none⟩ (.int .i64 (oneV l o).paid)).setCell ⟨g, k * 4 + 3, none⟩ (.slice z.1 (casV o).length z.2)).heap[p]? = Wx.heap[p]? from (by repeat rw [Below.heap_setCell _ _ _ _ (show p ≠ g by omega)])).trans (HXK.out Wx hB).1
     have HN3 : Hid (((((Wx.setCell ⟨g, k * 4, none⟩ (.string (mk (oneV l o).proc))).setCell ⟨g, k * 4 + 1, none⟩ (.int .i64 (oneV l o).bi)).setCell ⟨g, k * 4 + 2, none⟩ (.int .i64 (oneV l o).paid)).setCell ⟨g, k * 4 + 3, none⟩ (.slice z.1 (casV o).length z.2)).heap[p + 1]? = some (.cells (#[.string { data := #[] }, .int .i64 0, .int .i64 0, .int .i64 0, .int .i64 0, .slice none 0 0] : Array Value) 38 (0, 0))) := (show ((((Wx.setCell ⟨g, k * 4, none⟩ (.string (mk (oneV l o).proc))).setCell ⟨g, k * 4 + 1, none⟩ (.int .i64 (oneV l o).bi)).setCell ⟨g, k * 4 + 2, none⟩ (.int .i64 (oneV l o).paid)).setCell ⟨g, k * 4 + 3, none⟩ (.slice z.1 (casV o).length z.2)).heap[p + 1]? = Wx.heap[p + 1]? from (by repeat rw [Below.heap_setCell _ _ _ _ (show (p + 1) ≠ g by omega)])).trans (keepB HPB.out hB)
     have HN4 : Hid (Below p w ((((Wx.setCell ⟨g, k * 4, none⟩ (.string (mk (oneV l o).proc))).setCell ⟨g, k * 4 + 1, none⟩ (.int .i64 (oneV l o).bi)).setCell ⟨g, k * 4 + 2, none⟩ (.int .i64 (oneV l o).paid)).setCell ⟨g, k * 4 + 3, none⟩ (.slice z.1 (casV o).length z.2))) := ((((HBP.out.trans (hB.mono (by have := HBs.out; omega))).setCell (p := ⟨g, k * 4, none⟩) (show p ≤ g by omega) _).setCell (p := ⟨g, k * 4 + 1, none⟩) (show p ≤ g by omega) _).setCell (p := ⟨g, k * 4 + 2, none⟩) (show p ≤ g by omega) _).setCell (p := ⟨g, k * 4 + 3, none⟩) (show p ≤ g by omega) _
     have HN5 : Hid (Bs ≤ ((((Wx.setCell ⟨g, k * 4, none⟩ (.string (mk (oneV l o).proc))).setCell ⟨g, k * 4 + 1, none⟩ (.int .i64 (oneV l o).bi)).setCell ⟨g, k * 4 + 2, none⟩ (.int .i64 (oneV l o).paid)).setCell ⟨g, k * 4 + 3, none⟩ (.slice z.1 (casV o).length z.2)).heap.size) := by show _ ≤ _; have h1 := HBs.out; have h2 := hB.size; simp; omega
     clear hc hh hgh hgb
     go_simp
     refine hK14 undef _ ?_
     clear g0 g1 g2 g3 fz0 fz1 fz2 fz3
     clear hX hall hF hB
     simp only [Ri.Tail, Ri.puts]
     go_simp
     generalize ((((Wx.setCell ⟨g, k * 4, none⟩ (.string (mk (oneV l o).proc))).setCell ⟨g, k * 4 + 1, none⟩ (.int .i64 (oneV l o).bi)).setCell ⟨g, k * 4 + 2, none⟩ (.int .i64 (oneV l o).paid)).setCell ⟨g, k * 4 + 3, none⟩ (.slice z.1 (casV o).length z.2)) = WF at *
     go_wp2
     go_roundg (os.length - (k + 1))
     case measure => omega
     case rel => exact ⟨k + 1, _, by omega, rfl, by first | rfl | go_num, HNF.out, HN1.out, HN2.out, HN3.out, HN4.out, HN5.out⟩
   ·have hltz : ¬ (k : Int) < (os.length : Int) := by omega
    have HK0 : Hid (SvsAt (fun b => p ≤ b ∧ b ≠ h ∧ b ≠ p + 1) wr (.slice (some ⟨g, 0, none⟩) os.length os.length) (svsV c.lines os)) := by
     have h1 := HGB.out
     have h2 := HGH.out
     have := Half.whole (K := fun b => p ≤ b ∧ b ≠ h ∧ b ≠ p + 1) HHF.out (by have := HV.out; omega) (by omega) (fun b hb => by omega) (by have := HV.out; omega)
     rwa [HV.out] at this
    have HTO : Hid (∀ W, SvsAt All W (.slice (some ⟨g, 0, none⟩) os.length os.length) (svsV c.lines os) → Calls Try.prog 43 #[.slice (some ⟨g, 0, none⟩) os.length os.length] W fun e w' => e = .returned (.tuple #[.int .i64 (totB (svsV c.lines os)), .int .i64 (totP (svsV c.lines os)), .int .i64 (totM (svsV c.lines os))]) ∧ Below W.heap.size W w') := fun W hW => together_any (svsV c.lines os) _ W hW (by have := HV.out; omega) HBD.out
    have HCK : Hid (∀ W, SvsAt All W (.slice (some ⟨g, 0, none⟩) os.length os.length) (svsV c.lines os) → Calls Try.prog 31 #[.agg #[.string (mk c.id), .int .i64 1, .int .i64 (totB (svsV c.lines os)), .int .i64 (totP (svsV c.lines os)), .int .i64 (totM (svsV c.lines os)), .slice (some ⟨g, 0, none⟩) os.length os.length]] W fun e w' => e = .returned (.int .i64 (checkE (raw c os))) ∧ Below W.heap.size W w') := fun W hW => by
     have h1 := check_any (raw c os) (.slice (some ⟨g, 0, none⟩) os.length os.length) W hW HRO.out
     rw [HMT.out]
     exact h1
    have HYS : Hid (ofE c os = 0 → ∀ W (M : Int), totM (svsV c.lines os) = M → Below p w W → SvsAt (fun b => p ≤ b ∧ b ≠ h ∧ b ≠ p + 1) W (.slice (some ⟨g, 0, none⟩) os.length os.length) (svsV c.lines os) → OfV c os w (.returned (.tuple #[.agg #[.string (mk c.id), .int .i64 1, .int .i64 (totB (svsV c.lines os)), .int .i64 (totP (svsV c.lines os)), .int .i64 M, .slice (some ⟨g, 0, none⟩) os.length os.length], .int .i64 0])) W) := fun h0 W M hM hb hs => by
     refine ⟨⟨.slice (some ⟨g, 0, none⟩) os.length os.length, ?_, ?_⟩, by rw [hp]; exact hb⟩
     ·rw [of_yes h0, h0, ← hM, HMT.out]; rfl
     ·rw [of_yes h0]
      exact hs.move (moves_weak W fun b _ hk => by rw [hp]; exact hk.1)
    have HRF := Lib.hid (Below.refl wr.heap.size wr)
    have HMV : Hid (∀ W', Below wr.heap.size wr W' → SvsAt (fun b => p ≤ b ∧ b ≠ h ∧ b ≠ p + 1) W' (.slice (some ⟨g, 0, none⟩) os.length os.length) (svsV c.lines os) ∧ W'.heap[h]? = some (.cells (#[.string (mk c.id), .int .i64 1, .int .i64 0, .int .i64 0, .int .i64 0, .slice (some ⟨g, 0, none⟩) os.length os.length] : Array Value) 38 (0, 0)) ∧ W'.heap[p + 1]? = some (.cells (#[.string { data := #[] }, .int .i64 0, .int .i64 0, .int .i64 0, .int .i64 0, .slice none 0 0] : Array Value) 38 (0, 0)) ∧ Below p w W' ∧ Bs ≤ W'.heap.size) := fun W' hW => ⟨HK0.out.move ⟨hW.size, fun b hb hk => ⟨hk, hW.block b hb⟩⟩, keepB HNA.out hW, keepB HPB.out hW, HBP.out.trans (hW.mono (by have := HBs.out; have := HGB.out; omega)), Nat.le_trans HBs.out hW.size⟩
    have HKA := Lib.hid (HK0.out.all)
    have HIE := Lib.hid HIN.out
    clear HIN HMT HRO HBD HAT HV HHF HK0 HL HO HLE HPA
    generalize checkE (raw c os) = E at *
    generalize (svsV c.lines os) = L at *
    obtain ⟨TM, hTM⟩ : ∃ z, totM L = z := ⟨_, rfl⟩
    have HTM := Lib.hid hTM
    rw [hTM] at HTO HCK
    clear hTM
    generalize totB L = TB at *
    generalize totP L = TP at *
    by_cases hE : E = 0
    ·have HQ := Lib.hid (HYS.out (HIE.out.trans hE))
     subst hE
     go_upto_region 13 with (first | (go_at_call 43; refine (HTO.out _ HKA.out).mono ?_; rintro e w5 ⟨rfl, hb5⟩; obtain ⟨hs5, hh5, hq5, hbp5, hbs5⟩ := HMV.out w5 hb5; obtain ⟨q0, q1, q2, q3, q4, q5⟩ := six hh5; obtain ⟨fz0, fz1, fz2, fz3, fz4, fz5⟩ := frz6 hh5; have hgh := HGH.out; have hgb := HGB.out; have HS6 : Hid (SvsAt (fun b => p ≤ b ∧ b ≠ h ∧ b ≠ p + 1) (((w5.setCell ⟨h, 2, none⟩ (.int .i64 TB)).setCell ⟨h, 3, none⟩ (.int .i64 TP)).setCell ⟨h, 4, none⟩ (.int .i64 TM)) (.slice (some ⟨g, 0, none⟩) os.length os.length) L) := hs5.move ⟨by simp, fun b hb hk => ⟨hk, put3_keep hk.2.1 _ _ _⟩⟩; have HH6 : Hid ((((w5.setCell ⟨h, 2, none⟩ (.int .i64 TB)).setCell ⟨h, 3, none⟩ (.int .i64 TP)).setCell ⟨h, 4, none⟩ (.int .i64 TM)).heap[h]? = some (.cells (#[.string (mk c.id), .int .i64 1, .int .i64 TB, .int .i64 TP, .int .i64 TM, .slice (some ⟨g, 0, none⟩) os.length os.length] : Array Value) 38 (0, 0))) := put3_heap hh5 _ _ _; have HQ6 : Hid ((((w5.setCell ⟨h, 2, none⟩ (.int .i64 TB)).setCell ⟨h, 3, none⟩ (.int .i64 TP)).setCell ⟨h, 4, none⟩ (.int .i64 TM)).heap[p + 1]? = some (.cells (#[.string { data := #[] }, .int .i64 0, .int .i64 0, .int .i64 0, .int .i64 0, .slice none 0 0] : Array Value) 38 (0, 0))) := (put3_keep (show p + 1 ≠ h by omega) _ _ _).trans hq5; have HB6 : Hid (Below p w (((w5.setCell ⟨h, 2, none⟩ (.int .i64 TB)).setCell ⟨h, 3, none⟩ (.int .i64 TP)).setCell ⟨h, 4, none⟩ (.int .i64 TM))) := put3_below hbp5 h (by omega) _ _ _; have HZ6 : Hid (Bs ≤ (((w5.setCell ⟨h, 2, none⟩ (.int .i64 TB)).setCell ⟨h, 3, none⟩ (.int .i64 TP)).setCell ⟨h, 4, none⟩ (.int .i64 TM)).heap.size) := (by show _ ≤ _; simpa using hbs5); clear hs5 hh5 hq5 hbp5 hbs5 hb5 hgh hgb))
     obtain ⟨W7, hW7⟩ : ∃ z, z = (((w5.setCell ⟨h, 2, none⟩ (.int .i64 TB)).setCell ⟨h, 3, none⟩ (.int .i64 TP)).setCell ⟨h, 4, none⟩ (.int .i64 TM)) := ⟨_, rfl⟩
     rw [← hW7] at HS6 HH6 HQ6 HB6 HZ6 ⊢
     clear hW7 q0 q1 q2 q3 q4 q5 fz0 fz1 fz2 fz3 fz4 fz5
     have HS7 := HS6
     have HH7 := HH6
     have HQ7 := HQ6
     have HB7 := HB6
     have HZ7 := HZ6
     obtain ⟨q0, q1, q2, q3, q4, q5⟩ := six HH7.out
     go_wp2_with (first | (go_at_call 31; refine (HCK.out _ HS7.out.all).mono ?_; rintro e w7 ⟨rfl, hb7⟩; have HS8 : Hid (SvsAt (fun b => p ≤ b ∧ b ≠ h ∧ b ≠ p + 1) w7 (.slice (some ⟨g, 0, none⟩) os.length os.length) L) := HS7.out.move ⟨hb7.size, fun b hb hk => ⟨hk, hb7.block b hb⟩⟩; have hh8 := keepB HH7.out hb7; have HY8 := Lib.hid (keepB HQ7.out hb7); have HB8 : Hid (Below p w w7) := HB7.out.trans (hb7.mono (by have := HZ7.out; have := HGB.out; omega)); obtain ⟨q0, q1, q2, q3, q4, q5⟩ := six hh8; obtain ⟨y0, y1, y2, y3, y4, y5⟩ := six HY8.out; obtain ⟨fz0, fz1, fz2, fz3, fz4, fz5⟩ := frz6 HY8.out; clear hb7 hh8))
     have HYF := Lib.hid (put6_heap HY8.out (.string (mk c.id)) (.int .i64 1) (.int .i64 TB) (.int .i64 TP) (.int .i64 TM) (.slice (some ⟨g, 0, none⟩) os.length os.length))
     have HBF : Hid (Below p w ((((((w7.setCell ⟨(p + 1), 0, none⟩ (.string (mk c.id))).setCell ⟨(p + 1), 1, none⟩ (.int .i64 1)).setCell ⟨(p + 1), 2, none⟩ (.int .i64 TB)).setCell ⟨(p + 1), 3, none⟩ (.int .i64 TP)).setCell ⟨(p + 1), 4, none⟩ (.int .i64 TM)).setCell ⟨(p + 1), 5, none⟩ (.slice (some ⟨g, 0, none⟩) os.length os.length))) := put6_below HB8.out (p + 1) (by omega) (.string (mk c.id)) (.int .i64 1) (.int .i64 TB) (.int .i64 TP) (.int .i64 TM) (.slice (some ⟨g, 0, none⟩) os.length os.length)
     have HSF : Hid (SvsAt (fun b => p ≤ b ∧ b ≠ h ∧ b ≠ p + 1) ((((((w7.setCell ⟨(p + 1), 0, none⟩ (.string (mk c.id))).setCell ⟨(p + 1), 1, none⟩ (.int .i64 1)).setCell ⟨(p + 1), 2, none⟩ (.int .i64 TB)).setCell ⟨(p + 1), 3, none⟩ (.int .i64 TP)).setCell ⟨(p + 1), 4, none⟩ (.int .i64 TM)).setCell ⟨(p + 1), 5, none⟩ (.slice (some ⟨g, 0, none⟩) os.length os.length)) (.slice (some ⟨g, 0, none⟩) os.length os.length) L) := HS8.out.move ⟨by simp, fun b hb hk => ⟨hk, put6_keep hk.2.2 (.string (mk c.id)) (.int .i64 1) (.int .i64 TB) (.int .i64 TP) (.int .i64 TM) (.slice (some ⟨g, 0, none⟩) os.length os.length)⟩⟩
     generalize ((((((w7.setCell ⟨(p + 1), 0, none⟩ (.string (mk c.id))).setCell ⟨(p + 1), 1, none⟩ (.int .i64 1)).setCell ⟨(p + 1), 2, none⟩ (.int .i64 TB)).setCell ⟨(p + 1), 3, none⟩ (.int .i64 TP)).setCell ⟨(p + 1), 4, none⟩ (.int .i64 TM)).setCell ⟨(p + 1), 5, none⟩ (.slice (some ⟨g, 0, none⟩) os.length os.length)) = WF at *
     obtain ⟨n0, n1, n2, n3, n4, n5⟩ := six HYF.out
     refine bodyPost_ret (v := .tuple #[.agg (#[.string (mk c.id), .int .i64 1, .int .i64 TB, .int .i64 TP, .int .i64 TM, .slice (some ⟨g, 0, none⟩) os.length os.length] : Array Value), .int .i64 0]) (by simp [results, Try.results35, go_sem, n0, n1, n2, n3, n4, n5]) rfl ?_
     exact HQ.out WF TM HTM.out HBF.out HSF.out
    ·have hb0 : (E != 0) = true := by simpa using hE
     have HQ := Lib.hid fun w' => HNO.out E w' HIE.out hE
     clear hE
     go_upto_region 13 with (first | (go_at_call 43; refine (HTO.out _ HKA.out).mono ?_; rintro e w5 ⟨rfl, hb5⟩; obtain ⟨hs5, hh5, hq5, hbp5, hbs5⟩ := HMV.out w5 hb5; obtain ⟨q0, q1, q2, q3, q4, q5⟩ := six hh5; obtain ⟨fz0, fz1, fz2, fz3, fz4, fz5⟩ := frz6 hh5; have hgh := HGH.out; have hgb := HGB.out; have HS6 : Hid (SvsAt (fun b => p ≤ b ∧ b ≠ h ∧ b ≠ p + 1) (((w5.setCell ⟨h, 2, none⟩ (.int .i64 TB)).setCell ⟨h, 3, none⟩ (.int .i64 TP)).setCell ⟨h, 4, none⟩ (.int .i64 TM)) (.slice (some ⟨g, 0, none⟩) os.length os.length) L) := hs5.move ⟨by simp, fun b hb hk => ⟨hk, put3_keep hk.2.1 _ _ _⟩⟩; have HH6 : Hid ((((w5.setCell ⟨h, 2, none⟩ (.int .i64 TB)).setCell ⟨h, 3, none⟩ (.int .i64 TP)).setCell ⟨h, 4, none⟩ (.int .i64 TM)).heap[h]? = some (.cells (#[.string (mk c.id), .int .i64 1, .int .i64 TB, .int .i64 TP, .int .i64 TM, .slice (some ⟨g, 0, none⟩) os.length os.length] : Array Value) 38 (0, 0))) := put3_heap hh5 _ _ _; have HQ6 : Hid ((((w5.setCell ⟨h, 2, none⟩ (.int .i64 TB)).setCell ⟨h, 3, none⟩ (.int .i64 TP)).setCell ⟨h, 4, none⟩ (.int .i64 TM)).heap[p + 1]? = some (.cells (#[.string { data := #[] }, .int .i64 0, .int .i64 0, .int .i64 0, .int .i64 0, .slice none 0 0] : Array Value) 38 (0, 0))) := (put3_keep (show p + 1 ≠ h by omega) _ _ _).trans hq5; have HB6 : Hid (Below p w (((w5.setCell ⟨h, 2, none⟩ (.int .i64 TB)).setCell ⟨h, 3, none⟩ (.int .i64 TP)).setCell ⟨h, 4, none⟩ (.int .i64 TM))) := put3_below hbp5 h (by omega) _ _ _; have HZ6 : Hid (Bs ≤ (((w5.setCell ⟨h, 2, none⟩ (.int .i64 TB)).setCell ⟨h, 3, none⟩ (.int .i64 TP)).setCell ⟨h, 4, none⟩ (.int .i64 TM)).heap.size) := (by show _ ≤ _; simpa using hbs5); clear hs5 hh5 hq5 hbp5 hbs5 hb5 hgh hgb))
     obtain ⟨W7, hW7⟩ : ∃ z, z = (((w5.setCell ⟨h, 2, none⟩ (.int .i64 TB)).setCell ⟨h, 3, none⟩ (.int .i64 TP)).setCell ⟨h, 4, none⟩ (.int .i64 TM)) := ⟨_, rfl⟩
     rw [← hW7] at HS6 HH6 HQ6 HB6 HZ6 ⊢
     clear hW7 q0 q1 q2 q3 q4 q5 fz0 fz1 fz2 fz3 fz4 fz5
     have HS7 := HS6
     have HH7 := HH6
     have HQ7 := HQ6
     have HB7 := HB6
     have HZ7 := HZ6
     obtain ⟨q0, q1, q2, q3, q4, q5⟩ := six HH7.out
     go_wp2_with (first | (go_at_call 31; refine (HCK.out _ HS7.out.all).mono ?_; rintro e w7 ⟨rfl, hb7⟩; have HS8 : Hid (SvsAt (fun b => p ≤ b ∧ b ≠ h ∧ b ≠ p + 1) w7 (.slice (some ⟨g, 0, none⟩) os.length os.length) L) := HS7.out.move ⟨hb7.size, fun b hb hk => ⟨hk, hb7.block b hb⟩⟩; have hh8 := keepB HH7.out hb7; have HY8 := Lib.hid (keepB HQ7.out hb7); have HB8 : Hid (Below p w w7) := HB7.out.trans (hb7.mono (by have := HZ7.out; have := HGB.out; omega)); obtain ⟨q0, q1, q2, q3, q4, q5⟩ := six hh8; obtain ⟨y0, y1, y2, y3, y4, y5⟩ := six HY8.out; obtain ⟨fz0, fz1, fz2, fz3, fz4, fz5⟩ := frz6 HY8.out; clear hb7 hh8))
     have HYF := Lib.hid (put6_heap HY8.out (.string { data := #[] }) (.int .i64 0) (.int .i64 0) (.int .i64 0) (.int .i64 0) (.slice none 0 0))
     have HBF : Hid (Below p w ((((((w7.setCell ⟨(p + 1), 0, none⟩ (.string { data := #[] })).setCell ⟨(p + 1), 1, none⟩ (.int .i64 0)).setCell ⟨(p + 1), 2, none⟩ (.int .i64 0)).setCell ⟨(p + 1), 3, none⟩ (.int .i64 0)).setCell ⟨(p + 1), 4, none⟩ (.int .i64 0)).setCell ⟨(p + 1), 5, none⟩ (.slice none 0 0))) := put6_below HB8.out (p + 1) (by omega) _ _ _ _ _ _
     generalize ((((((w7.setCell ⟨(p + 1), 0, none⟩ (.string { data := #[] })).setCell ⟨(p + 1), 1, none⟩ (.int .i64 0)).setCell ⟨(p + 1), 2, none⟩ (.int .i64 0)).setCell ⟨(p + 1), 3, none⟩ (.int .i64 0)).setCell ⟨(p + 1), 4, none⟩ (.int .i64 0)).setCell ⟨(p + 1), 5, none⟩ (.slice none 0 0)) = WF at *
     obtain ⟨n0, n1, n2, n3, n4, n5⟩ := six HYF.out
     refine bodyPost_ret (v := .tuple #[.agg (#[.string { data := #[] }, .int .i64 0, .int .i64 0, .int .i64 0, .int .i64 0, .slice none 0 0] : Array Value), .int .i64 (E)]) (by simp [results, Try.results35, go_sem, n0, n1, n2, n3, n4, n5]) rfl ?_
     exact HQ.out _ HBF.out
end Go.Proofs.Ytpfpjbeofogbgaa.Sv
end
