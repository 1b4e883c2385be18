/-
  Texts put together (merge.py): MPaid, LCode, LTexts, CAdds, CRefs, VGood.
-/
import Derived.WalkKit
import Derived.Deep.Cut
import Derived.Test.YtpfpjbeofogbgaaMg5
import Derived.Test.YtpfpjbeofogbgaaMg8
import Derived.Test.YtpfpjbeofogbgaaMg4
import Derived.Test.YtpfpjbeofogbgaaProg
import Derived.Test.YtpfpjbeofogbgaaMg1
/-
  What the law's own paid answers, as a contract: an entry of one service of which all that is billed is paid. (Written by gen_works.py.)
-/
section
set_option linter.unusedSimpArgs false
set_option linter.unusedVariables false
set_option maxRecDepth 100000
namespace Go.Proofs.Ytpfpjbeofogbgaa.Re
open Go.RowKit
open Sv (Ca Sr Cp SvsAt CasAt CpsAt CpCells cpv cpe six)
open Bk (En Ev EnsAt EnCells Cont EnOk OtsAt OtCells keepB heap_far below_alloc below_trans alloc_new heap_set add_lit ten ecs ecs_at ec)
open Cm (Ln Cl LnsAt LnCells)
open Sh (Ot)

theorem chain10 {w w' : World} {b : Nat} {c0 c1 c2 c3 c4 c5 c6 c7 c8 c9 : Value} {T : TypeId} (a0 a1 a2 a3 a4 a5 a6 a7 a8 a9 : Value) (h : w.heap[b]? = some (.cells #[c0, c1, c2, c3, c4, c5, c6, c7, c8, c9] T (0, 0))) (hw : w' = ((((((((((w.setCell ⟨b, 0, none⟩ a0).setCell ⟨b, 1, none⟩ a1).setCell ⟨b, 2, none⟩ a2).setCell ⟨b, 3, none⟩ a3).setCell ⟨b, 4, none⟩ a4).setCell ⟨b, 5, none⟩ a5).setCell ⟨b, 6, none⟩ a6).setCell ⟨b, 7, none⟩ a7).setCell ⟨b, 8, none⟩ a8).setCell ⟨b, 9, none⟩ a9)) : w'.heap[b]? = some (.cells #[a0, a1, a2, a3, a4, a5, a6, a7, a8, a9] T (0, 0)) := by
  subst hw
  have h0 := heap_set h 0 a0
  have h1 := heap_set h0 1 a1
  have h2 := heap_set h1 2 a2
  have h3 := heap_set h2 3 a3
  have h4 := heap_set h3 4 a4
  have h5 := heap_set h4 5 a5
  have h6 := heap_set h5 6 a6
  have h7 := heap_set h6 7 a7
  have h8 := heap_set h7 8 a8
  have h9 := heap_set h8 9 a9
  exact h9.trans (by kernel_rfl)
theorem grown_refl (w : World) (r : Option Nat) : w.grownBy w r := ⟨rfl, rfl, rfl, Nat.le_refl _, fun _ _ _ => rfl⟩
theorem grown_set {W W' : World} {b : Nat} (h : W.grownBy W' (some b)) (j : Nat) (u : Value) : W.grownBy (W'.setCell ⟨b, j, none⟩ u) (some b) :=
  ⟨h.os, h.tape, h.output, by simpa using h.size, fun k hk hne => (Below.heap_setCell _ _ _ _ (fun e => hne (by rw [e]))).trans (h.block k hk hne)⟩
theorem frz10 {w : World} {b : Nat} {cs : Array Value} {T : TypeId} (h : w.heap[b]? = some (.cells cs T (0, 0))) : w.frozen? ⟨b, 0, none⟩ = false ∧ w.frozen? ⟨b, 1, none⟩ = false ∧ w.frozen? ⟨b, 2, none⟩ = false ∧ w.frozen? ⟨b, 3, none⟩ = false ∧ w.frozen? ⟨b, 4, none⟩ = false ∧ w.frozen? ⟨b, 5, none⟩ = false ∧ w.frozen? ⟨b, 6, none⟩ = false ∧ w.frozen? ⟨b, 7, none⟩ = false ∧ w.frozen? ⟨b, 8, none⟩ = false ∧ w.frozen? ⟨b, 9, none⟩ = false := by
  refine ⟨?_, ?_, ?_, ?_, ?_, ?_, ?_, ?_, ?_, ?_⟩ <;> simp [World.frozen?, h]
theorem lns_one {K : Nat → Prop} {w : World} {q : Nat} {l : Ln} {T : TypeId} (hm : l.mods = []) (hK : K q) (h : w.heap[q]? = some (.cells #[.string (mk l.proc), .slice none 0 0, .int .i64 l.date, .int .i64 l.units, .int .i64 l.billed, .int .i64 l.prior] T (0, 0))) : LnsAt K w (.slice (some ⟨q, 0, none⟩) 1 1) [l] := by
  refine ⟨_, _, rfl, Nat.le_refl _, by unfold maxLen; omega, Or.inr ⟨q, 0, rfl, hK, (Array.getElem?_eq_some_iff.1 h).1, fun j x hj => ?_⟩⟩
  have hj0 : j = 0 := by have := (List.getElem?_eq_some_iff.1 hj).1; simpa using this
  subst hj0
  obtain rfl : l = x := by simpa using hj
  refine ⟨.slice none 0 0, ?_, by rw [hm]; exact TxAt.nil _ _⟩
  obtain ⟨h0, h1, h2, h3, h4, h5⟩ := six h
  exact ⟨h0, h1, h2, h3, h4, h5⟩
theorem ots_one {K : Nat → Prop} {w : World} {q : Nat} {o : Ot} {T : TypeId} (hK : K q) (h : w.heap[q]? = some (.cells #[.int .i64 o.al, .int .i64 o.de, .int .i64 o.cp, .int .i64 o.cn, .int .i64 o.plan, .int .i64 o.wr, .int .i64 o.pr, .int .i64 o.deny] T (0, 0))) : OtsAt K w (.slice (some ⟨q, 0, none⟩) 1 1) [o] := by
  refine ⟨_, _, rfl, Nat.le_refl _, by unfold maxLen; omega, Or.inr ⟨q, 0, rfl, hK, (Array.getElem?_eq_some_iff.1 h).1, fun j x hj => ?_⟩⟩
  have hj0 : j = 0 := by have := (List.getElem?_eq_some_iff.1 hj).1; simpa using this
  subst hj0
  obtain rfl : o = x := by simpa using hj
  refine ⟨?_, ?_, ?_, ?_, ?_, ?_, ?_, ?_⟩ <;> (rw [cell_of_row w q _ _ T (0, 0) h]; rfl)
/-- Entries in one block. -/
theorem ens_of {w : World} {g : Nat} {cs : Array Value} {L : List Ev} (h : w.heap[g]? = some (.cells cs Bk.TE (0, 0))) (hc : cs.toList = ecs L) (hk : ∀ x ∈ L, Cont All w x) (hl : L.length ≤ 1000000) : EnsAt All w (.slice (some ⟨g, 0, none⟩) L.length L.length) (L.map (·.e)) := by
  refine ⟨_, _, by rw [List.length_map], by rw [List.length_map]; exact Nat.le_refl _, by unfold maxLen; omega, Or.inr ⟨g, 0, rfl, trivial, (Array.getElem?_eq_some_iff.1 h).1, fun j x hj => ?_⟩⟩
  rw [List.getElem?_map] at hj
  obtain ⟨y, hy, rfl⟩ := Option.map_eq_some_iff.1 hj
  have e : ∀ i, i < 10 → w.cell? ⟨g, 0 + j * 10 + i, none⟩ = (ec y)[i]? := fun i hi => by
    have q := ecs_at L j y hy i hi
    rw [← hc] at q
    rw [cell_of_row w g _ cs _ (0, 0) h, Nat.zero_add]
    simpa using q
  refine ⟨y.m, y.o, ⟨e 0 (by omega), e 1 (by omega), e 2 (by omega), e 3 (by omega), e 4 (by omega), e 5 (by omega), e 6 (by omega), e 7 (by omega), e 8 (by omega), e 9 (by omega)⟩, ?_⟩
  exact hk y (List.mem_of_getElem? hy)

set_option maxHeartbeats 2000000 in
theorem store10_op {ops : Array Oper} {rest : List Oper} {o : Oper} {a : Act} {w : World} {Q : Exit → Act → World → Prop} (hgd : o.guard = none) (m x : Nat) (ho : o.op = Op.store Bk.TE (.tmp m) (.tmp x)) (b : Nat) (s0 s1 s2 s5 : ByteArray) (i3 i4 i7 i8 : Int) (p6 p9 : Option Addr) (n6 k6 n9 k9 : Nat) (hm : a.tmps[m]?.getD undef = .pointer (some ⟨b, 0, none⟩)) (hx : a.tmps[x]?.getD undef = .agg #[(.string s0), (.string s1), (.string s2), (.int .i64 i3), (.int .i64 i4), (.string s5), (.slice p6 n6 k6), (.int .i64 i7), (.int .i64 i8), (.slice p9 n9 k9)]) {c0 c1 c2 c3 c4 c5 c6 c7 c8 c9 : Value} (h : w.heap[b]? = some (.cells #[c0, c1, c2, c3, c4, c5, c6, c7, c8, c9] Bk.TE (0, 0)))
    (hK : ∀ w', w'.heap[b]? = some (.cells #[(.string s0), (.string s1), (.string s2), (.int .i64 i3), (.int .i64 i4), (.string s5), (.slice p6 n6 k6), (.int .i64 i7), (.int .i64 i8), (.slice p9 n9 k9)] Bk.TE (0, 0)) → w.grownBy w' (some b) → wpList Try.prog ops Q rest (a.put o.dst undef) w') : wpList Try.prog ops Q (o :: rest) a w := by
  refine wpList_plain hgd fun K' hK' => ?_
  obtain ⟨x0, x1, x2, x3, x4, x5, x6, x7, x8, x9⟩ := ten h
  obtain ⟨z0, z1, z2, z3, z4, z5, z6, z7, z8, z9⟩ := frz10 h
  have hfin := hK ((((((((((w.setCell ⟨b, 0, none⟩ (.string s0)).setCell ⟨b, 1, none⟩ (.string s1)).setCell ⟨b, 2, none⟩ (.string s2)).setCell ⟨b, 3, none⟩ (.int .i64 i3)).setCell ⟨b, 4, none⟩ (.int .i64 i4)).setCell ⟨b, 5, none⟩ (.string s5)).setCell ⟨b, 6, none⟩ (.slice p6 n6 k6)).setCell ⟨b, 7, none⟩ (.int .i64 i7)).setCell ⟨b, 8, none⟩ (.int .i64 i8)).setCell ⟨b, 9, none⟩ (.slice p9 n9 k9)) (chain10 (.string s0) (.string s1) (.string s2) (.int .i64 i3) (.int .i64 i4) (.string s5) (.slice p6 n6 k6) (.int .i64 i7) (.int .i64 i8) (.slice p9 n9 k9) h rfl) (grown_set (grown_set (grown_set (grown_set (grown_set (grown_set (grown_set (grown_set (grown_set (grown_set (grown_refl w (some b)) 0 (.string s0)) 1 (.string s1)) 2 (.string s2)) 3 (.int .i64 i3)) 4 (.int .i64 i4)) 5 (.string s5)) 6 (.slice p6 n6 k6)) 7 (.int .i64 i7)) 8 (.int .i64 i8)) 9 (.slice p9 n9 k9))
  clear h hK
  unfold Oper.wp
  simp [execOp, ho, hm, hx, Instr.storeAt, go_sem, x0, x1, x2, x3, x4, x5, x6, x7, x8, x9, z0, z1, z2, z3, z4, z5, z6, z7, z8, z9]
  go_simp
  exact hK' _ _ hfin
def pLn (n : Int) : Ln := ⟨[57, 57, 50, 49, 51], [], 0, 0, n, 0⟩
def pOt (n : Int) : Ot := ⟨0, 0, 0, 0, n, 0, 0, 0⟩
def pE (id : Tx) (st n : Int) : En := ⟨⟨id, [], [], 0, 0, [], [pLn n]⟩, 0, st, [pOt n]⟩

set_option maxHeartbeats 2000000 in
theorem paid_any (id : Tx) (st n : Int) (w : World) : Calls Try.prog 23 #[.string (mk id), .int .i64 st, .int .i64 n] w fun e w' => (∃ a b, e = .returned (Bk.env (pE id st n) (.slice (some a) 1 1) (.slice (some b) 1 1)) ∧ Cont All w' ⟨pE id st n, .slice (some a) 1 1, .slice (some b) 1 1⟩) ∧ Below w.heap.size w w' := by
  have HB := Lib.hid (below_alloc w (.cells (#[.string ⟨#[]⟩, .string ⟨#[]⟩, .string ⟨#[]⟩, .int .i64 0, .int .i64 0, .string ⟨#[]⟩, .slice none 0 0, .int .i64 0, .int .i64 0, .slice none 0 0] : Array Value) 48))
  have HX := Lib.hid (alloc_new w (#[.string ⟨#[]⟩, .string ⟨#[]⟩, .string ⟨#[]⟩, .int .i64 0, .int .i64 0, .string ⟨#[]⟩, .slice none 0 0, .int .i64 0, .int .i64 0, .slice none 0 0] : Array Value) 48)
  have HS : Hid ((w.alloc (.cells (#[.string ⟨#[]⟩, .string ⟨#[]⟩, .string ⟨#[]⟩, .int .i64 0, .int .i64 0, .string ⟨#[]⟩, .slice none 0 0, .int .i64 0, .int .i64 0, .slice none 0 0] : Array Value) 48)).heap.size = w.heap.size + 1) := by show _ = _; simp
  go_enter Try.func23, Try.ntmps23
  go_upto_region 1 with fail
  generalize (w.alloc (.cells (#[.string ⟨#[]⟩, .string ⟨#[]⟩, .string ⟨#[]⟩, .int .i64 0, .int .i64 0, .string ⟨#[]⟩, .slice none 0 0, .int .i64 0, .int .i64 0, .slice none 0 0] : Array Value) 48)) = W at *
  generalize hp : w.heap.size = p at *
  have HS1 : Hid ((W.alloc (.cells (#[.string { data := #[57, 57, 50, 49, 51] }, .slice none 0 0, .int .i64 0, .int .i64 0, .int .i64 n, .int .i64 0] : Array Value) 56)).heap.size = p + 2) := by have := HS.out; show _ = _; simp; omega
  have HX2 : Hid (((W.alloc (.cells (#[.string { data := #[57, 57, 50, 49, 51] }, .slice none 0 0, .int .i64 0, .int .i64 0, .int .i64 n, .int .i64 0] : Array Value) 56)).alloc (.cells (#[.int .i64 0, .int .i64 0, .int .i64 0, .int .i64 0, .int .i64 n, .int .i64 0, .int .i64 0, .int .i64 0] : Array Value) 50)).heap[p]? = some (.cells (#[.string ⟨#[]⟩, .string ⟨#[]⟩, .string ⟨#[]⟩, .int .i64 0, .int .i64 0, .string ⟨#[]⟩, .slice none 0 0, .int .i64 0, .int .i64 0, .slice none 0 0] : Array Value) 48 (0, 0))) := keepB (keepB HX.out (below_alloc _ _)) (below_alloc _ _)
  have HL2 : Hid (((W.alloc (.cells (#[.string { data := #[57, 57, 50, 49, 51] }, .slice none 0 0, .int .i64 0, .int .i64 0, .int .i64 n, .int .i64 0] : Array Value) 56)).alloc (.cells (#[.int .i64 0, .int .i64 0, .int .i64 0, .int .i64 0, .int .i64 n, .int .i64 0, .int .i64 0, .int .i64 0] : Array Value) 50)).heap[p + 1]? = some (.cells (#[.string { data := #[57, 57, 50, 49, 51] }, .slice none 0 0, .int .i64 0, .int .i64 0, .int .i64 n, .int .i64 0] : Array Value) 56 (0, 0))) := by
    have h := keepB (alloc_new W (#[.string { data := #[57, 57, 50, 49, 51] }, .slice none 0 0, .int .i64 0, .int .i64 0, .int .i64 n, .int .i64 0] : Array Value) 56) (below_alloc _ (.cells (#[.int .i64 0, .int .i64 0, .int .i64 0, .int .i64 0, .int .i64 n, .int .i64 0, .int .i64 0, .int .i64 0] : Array Value) 50))
    rwa [HS.out] at h
  have HO2 : Hid (((W.alloc (.cells (#[.string { data := #[57, 57, 50, 49, 51] }, .slice none 0 0, .int .i64 0, .int .i64 0, .int .i64 n, .int .i64 0] : Array Value) 56)).alloc (.cells (#[.int .i64 0, .int .i64 0, .int .i64 0, .int .i64 0, .int .i64 n, .int .i64 0, .int .i64 0, .int .i64 0] : Array Value) 50)).heap[p + 2]? = some (.cells (#[.int .i64 0, .int .i64 0, .int .i64 0, .int .i64 0, .int .i64 n, .int .i64 0, .int .i64 0, .int .i64 0] : Array Value) 50 (0, 0))) := by
    have h := alloc_new (W.alloc (.cells (#[.string { data := #[57, 57, 50, 49, 51] }, .slice none 0 0, .int .i64 0, .int .i64 0, .int .i64 n, .int .i64 0] : Array Value) 56)) (#[.int .i64 0, .int .i64 0, .int .i64 0, .int .i64 0, .int .i64 n, .int .i64 0, .int .i64 0, .int .i64 0] : Array Value) 50
    rwa [HS1.out] at h
  have HB2 : Hid (Below p w ((W.alloc (.cells (#[.string { data := #[57, 57, 50, 49, 51] }, .slice none 0 0, .int .i64 0, .int .i64 0, .int .i64 n, .int .i64 0] : Array Value) 56)).alloc (.cells (#[.int .i64 0, .int .i64 0, .int .i64 0, .int .i64 0, .int .i64 n, .int .i64 0, .int .i64 0, .int .i64 0] : Array Value) 50))) := HB.out.trans ((below_trans (below_alloc W _) (below_alloc _ _)).mono (by have := HS.out; omega))
  have hs0 := HS.out
  have hs1 := HS1.out
  obtain ⟨x0, x1, x2, x3, x4, x5, x6, x7, x8, x9⟩ := ten HX.out
  obtain ⟨z0, z1, z2, z3, z4, z5, z6, z7, z8, z9⟩ := frz10 HX.out
  have hpw : p < W.heap.size := by omega
  go_wp2_with (first | (refine store10_op rfl _ _ rfl p _ _ _ _ _ _ _ _ _ _ _ _ _ _ rfl rfl HX2.out ?_; intro w9 hw9 hg9) | (rw [hs0]) | (rw [hs1]))
  obtain ⟨n0, n1, n2, n3, n4, n5, n6, n7, n8, n9⟩ := ten hw9
  have HBF : Hid (Below p w w9) := HB2.out.grown hg9 (by have := HB2.out.size; omega) (fun j hj => by injection hj with hj; omega)
  have HLF : Hid (w9.heap[p + 1]? = some (.cells (#[.string { data := #[57, 57, 50, 49, 51] }, .slice none 0 0, .int .i64 0, .int .i64 0, .int .i64 n, .int .i64 0] : Array Value) 56 (0, 0))) := (hg9.block _ (by have := (Array.getElem?_eq_some_iff.1 HL2.out).1; exact this) (fun e => by injection e with e; omega)).trans HL2.out
  have HOF : Hid (w9.heap[p + 2]? = some (.cells (#[.int .i64 0, .int .i64 0, .int .i64 0, .int .i64 0, .int .i64 n, .int .i64 0, .int .i64 0, .int .i64 0] : Array Value) 50 (0, 0))) := (hg9.block _ (by have := (Array.getElem?_eq_some_iff.1 HO2.out).1; exact this) (fun e => by injection e with e; omega)).trans HO2.out
  clear hw9 hg9
  refine bodyPost_ret (v := .agg #[(.string (mk id)), (.string ⟨#[]⟩), (.string ⟨#[]⟩), (.int .i64 0), (.int .i64 0), (.string ⟨#[]⟩), (.slice (some ⟨p + 1, 0, none⟩) 1 1), (.int .i64 0), (.int .i64 st), (.slice (some ⟨p + 2, 0, none⟩) 1 1)]) (by simp [results, Try.results23, go_sem, n0, n1, n2, n3, n4, n5, n6, n7, n8, n9]) rfl ?_
  exact ⟨⟨_, _, rfl, lns_one (l := pLn n) rfl trivial HLF.out, ots_one (o := pOt n) trivial HOF.out⟩, by first | exact HBF.out | (rw [hp]; exact HBF.out)⟩
end Go.Proofs.Ytpfpjbeofogbgaa.Re
end

/-
  What claim.codeSign, Code, name, mods and the reference's Code answer, as contracts: for every text; the world stands.
-/
section
set_option linter.unusedSimpArgs false
namespace Go.Proofs.Ytpfpjbeofogbgaa.Cm
open Go.RowKit

theorem sign_any (c : UInt8) (w : World) :
    Calls Try.prog 63 #[.int .u8 c.toNat] w fun e w' => e = .returned (.bool (signB c)) ∧ w' = w := by
  unfold signB
  generalize c.toNat = n
  cases h1 : decide (65 ≤ n) <;> cases h2 : decide (n ≤ 90) <;> cases h3 : decide (48 ≤ n) <;> cases h4 : decide (n ≤ 57) <;>
  · simp only [decide_eq_true_eq, decide_eq_false_iff_not] at h1 h2 h3 h4
    first
      | omega
      | (go_enter Try.func63, Try.ntmps63
         go_wp2
         go_ret
         exact ⟨by first | rfl | (simp; omega), rfl⟩)

theorem all_take {p : UInt8 → Bool} (s : Tx) (k : Nat) (c : UInt8) (h : s[k]? = some c) (hk : (s.take k).all p = true) (hc : p c = true) : (s.take (k + 1)).all p = true := by
  rw [List.take_add_one, h]; simp_all
theorem all_not {p : UInt8 → Bool} (s : Tx) (k : Nat) (c : UInt8) (h : s[k]? = some c) (hc : p c = false) : s.all p = false := by
  rw [List.all_eq_false]
  exact ⟨c, List.mem_of_getElem? h, by simp [hc]⟩
theorem code_short (s : Tx) (f t : Int) (h : (s.length : Int) < f) : codeB s f t = false := by unfold codeB; rw [decide_eq_false (by omega)]; simp
theorem code_long (s : Tx) (f t : Int) (h : t < (s.length : Int)) : codeB s f t = false := by unfold codeB; rw [decide_eq_false (p := (s.length : Int) ≤ t) (by omega)]; simp
theorem code_in (s : Tx) (f t : Int) (h1 : f ≤ (s.length : Int)) (h2 : (s.length : Int) ≤ t) : codeB s f t = s.all signB := by unfold codeB; rw [decide_eq_true h1, decide_eq_true h2]; simp
theorem mk_at (s : Tx) (k : Nat) (hk : k < (mk s).size) : s[k]? = some (mk s)[k] := by
  have hl : k < s.length := by rw [← mk_size]; exact hk
  rw [List.getElem?_eq_getElem hl]
  rfl

set_option maxHeartbeats 1000000 in
theorem code_any (s : Tx) (f t : Int) (w : World) (hs : s.length ≤ 9223372036854775807) :
    Calls Try.prog 54 #[.string (mk s), .int .i64 f, .int .i64 t] w fun e w' => e = .returned (.bool (codeB s f t)) ∧ w' = w := by
  have hz := mk_size s
  have HS := Lib.hid hs
  have HAT := Lib.hid (mk_at s)
  have HSH := Lib.hid (code_short s f t)
  have HLO := Lib.hid (code_long s f t)
  have HIN := Lib.hid (code_in s f t)
  generalize codeB s f t = R at *
  rw [← hz] at hs HSH HLO HIN
  have HZ := Lib.hid hz
  clear hz
  generalize mk s = X at *
  by_cases h1 : (X.size : Int) < f
  · rw [HSH.out h1]
    go_enter Try.func54, Try.ntmps54
    go_wp2
    go_ret
    exact ⟨rfl, rfl⟩
  by_cases h2 : t < (X.size : Int)
  · rw [HLO.out h2]
    go_enter Try.func54, Try.ntmps54
    go_wp2
    go_ret
    exact ⟨rfl, rfl⟩
  rw [HIN.out (by omega) (by omega)]
  go_enter Try.func54, Try.ntmps54
  go_wp2
  go_loopg [20] (X.size) (fun g i wr => ∃ k : Nat, k ≤ X.size ∧ g = X.size - k ∧ i = .int .i64 k ∧ wr = w ∧ Hid ((s.take k).all signB = true))
  case atStart => exact ⟨0, Nat.zero_le _, rfl, rfl, rfl, rfl⟩
  case round =>
    obtain ⟨k, hk, hg, rfl, hw, HA⟩ := hrel
    rw [hw]
    clear hw wr
    by_cases hlt : k < X.size
    · have HC := Lib.hid (HAT.out k hlt)
      cases hq : signB X[k]
      · go_wp2_with (go_at_call 63; refine (sign_any _ _).mono ?_; rintro e w' ⟨rfl, rfl⟩)
        go_ret
        exact ⟨by rw [all_not s k _ HC.out hq]; rfl, rfl⟩
      · go_wp2_with (go_at_call 63; refine (sign_any _ _).mono ?_; rintro e w' ⟨rfl, rfl⟩)
        go_roundg (X.size - (k + 1))
        case rel => exact ⟨k + 1, by omega, rfl, by go_num, rfl, all_take s k _ HC.out HA.out hq⟩
        case measure => omega
    · have hall : (s.take k) = s := List.take_of_length_le (by rw [← HZ.out]; omega)
      rw [hall] at HA
      clear hall
      go_wp2
      go_ret
      exact ⟨by rw [HA.out]; rfl, rfl⟩

set_option maxHeartbeats 1000000 in
theorem rcode_any (s : Tx) (f t : Int) (w : World) (hs : s.length ≤ 9223372036854775807) :
    Calls Try.prog 45 #[.string (mk s), .int .i64 f, .int .i64 t] w fun e w' => e = .returned (.bool (codeB s f t)) ∧ w' = w := by
  have hz := mk_size s
  have HS := Lib.hid hs
  have HAT := Lib.hid (mk_at s)
  have HSH := Lib.hid (code_short s f t)
  have HLO := Lib.hid (code_long s f t)
  have HIN := Lib.hid (code_in s f t)
  generalize codeB s f t = R at *
  rw [← hz] at hs HSH HLO HIN
  have HZ := Lib.hid hz
  clear hz
  generalize mk s = X at *
  by_cases h1 : (X.size : Int) < f
  · rw [HSH.out h1]
    go_enter Try.func45, Try.ntmps45
    go_wp2
    go_ret
    exact ⟨rfl, rfl⟩
  by_cases h2 : t < (X.size : Int)
  · rw [HLO.out h2]
    go_enter Try.func45, Try.ntmps45
    go_wp2
    go_ret
    exact ⟨rfl, rfl⟩
  rw [HIN.out (by omega) (by omega)]
  go_enter Try.func45, Try.ntmps45
  go_wp2
  go_loopg [7] (X.size) (fun g i wr => ∃ k : Nat, k ≤ X.size ∧ g = X.size - k ∧ i = .int .i64 k ∧ wr = w ∧ Hid ((s.take k).all signB = true))
  case atStart => exact ⟨0, Nat.zero_le _, rfl, rfl, rfl, rfl⟩
  case round =>
    obtain ⟨k, hk, hg, rfl, hw, HA⟩ := hrel
    rw [hw]
    clear hw wr
    by_cases hlt : k < X.size
    · have HC := Lib.hid (HAT.out k hlt)
      have HQ : Hid (signB X[k] = ((decide (65 ≤ X[k].toNat) && decide (X[k].toNat ≤ 90)) || (decide (48 ≤ X[k].toNat) && decide (X[k].toNat ≤ 57)))) := rfl
      by_cases g1 : 65 ≤ X[k].toNat ∧ X[k].toNat ≤ 90
      · obtain ⟨g1, g2⟩ := g1
        have g3 : 48 ≤ X[k].toNat := by omega
        have g4 : ¬ X[k].toNat ≤ 57 := by omega
        have d4 : decide ((X[k].toNat : Int) ≤ 57) = false := decide_eq_false (by omega)
        have d2 : decide ((X[k].toNat : Int) ≤ 90) = true := decide_eq_true (by omega)
        have hq := HQ.out
        rw [decide_eq_true g1, decide_eq_true g2] at hq
        have HQ2 := Lib.hid hq
        clear hq
        go_wp2
        go_roundg (X.size - (k + 1))
        case rel => exact ⟨k + 1, by omega, rfl, by go_num, rfl, all_take s k _ HC.out HA.out HQ2.out⟩
        case measure => omega
      by_cases g3 : 48 ≤ X[k].toNat ∧ X[k].toNat ≤ 57
      · obtain ⟨g3, g4⟩ := g3
        have g5 : ¬ 65 ≤ X[k].toNat := by omega
        have d4 : decide ((X[k].toNat : Int) ≤ 57) = true := decide_eq_true (by omega)
        have hq := HQ.out
        rw [decide_eq_true g3, decide_eq_true g4, Bool.and_self, Bool.or_true] at hq
        have HQ2 := Lib.hid hq
        clear hq g1
        go_wp2
        go_roundg (X.size - (k + 1))
        case rel => exact ⟨k + 1, by omega, rfl, by go_num, rfl, all_take s k _ HC.out HA.out HQ2.out⟩
        case measure => omega
      have HQ2 : Hid (signB X[k] = false) := by
        show _ = _
        rw [HQ.out]
        simp
        omega
      by_cases g5 : 65 ≤ X[k].toNat
      · have g6 : ¬ X[k].toNat ≤ 90 := by omega
        have g7 : 48 ≤ X[k].toNat := by omega
        have g8 : ¬ X[k].toNat ≤ 57 := by omega
        have d4 : decide ((X[k].toNat : Int) ≤ 57) = false := decide_eq_false (by omega)
        have d2 : decide ((X[k].toNat : Int) ≤ 90) = false := decide_eq_false (by omega)
        clear g1 g3
        go_wp2
        go_ret
        exact ⟨by rw [all_not s k _ HC.out HQ2.out]; rfl, rfl⟩
      · by_cases g7 : 48 ≤ X[k].toNat
        · have g8 : ¬ X[k].toNat ≤ 57 := by omega
          have d4 : decide ((X[k].toNat : Int) ≤ 57) = false := decide_eq_false (by omega)
          clear g1 g3
          go_wp2
          go_ret
          exact ⟨by rw [all_not s k _ HC.out HQ2.out]; rfl, rfl⟩
        · clear g1 g3
          go_wp2
          go_ret
          exact ⟨by rw [all_not s k _ HC.out HQ2.out]; rfl, rfl⟩
    · have hall : (s.take k) = s := List.take_of_length_le (by rw [← HZ.out]; omega)
      rw [hall] at HA
      clear hall
      go_wp2
      go_ret
      exact ⟨by rw [HA.out]; rfl, rfl⟩

theorem mods_take (l : List Tx) (k : Nat) (c : Tx) (h : l[k]? = some c) (hk : ((l.take k).all fun x => codeB x 2 2) = true) (hc : codeB c 2 2 = true) : ((l.take (k + 1)).all fun x => codeB x 2 2) = true := by
  rw [List.take_add_one, h]; simp_all
theorem mods_not (l : List Tx) (k : Nat) (c : Tx) (h : l[k]? = some c) (hc : codeB c 2 2 = false) : modsB l = false := by
  unfold modsB
  have : (l.all fun x => codeB x 2 2) = false := by
    rw [List.all_eq_false]
    exact ⟨c, List.mem_of_getElem? h, by simp [hc]⟩
  rw [this]; simp
theorem mods_many (l : List Tx) (h : ¬ l.length ≤ 4) : modsB l = false := by unfold modsB; rw [decide_eq_false h]; rfl
theorem mods_all (l : List Tx) (k : Nat) (h : l.length ≤ 4) (hk : l.length ≤ k) (ha : ((l.take k).all fun x => codeB x 2 2) = true) : modsB l = true := by
  rw [List.take_of_length_le hk] at ha
  unfold modsB; rw [decide_eq_true h, ha]; rfl

end Go.Proofs.Ytpfpjbeofogbgaa.Cm
end

/-
  What slices.Equal (at texts) and the reference's Texts answer, as contracts: whether two rows are the same, part by part.
-/
section
set_option linter.unusedSimpArgs false
namespace Go.Proofs.Ytpfpjbeofogbgaa.Cm
open Go.RowKit

theorem takes_eq {α : Type} [DecidableEq α] (xs ys : List α) (k : Nat) (x y : α) (hx : xs[k]? = some x) (hy : ys[k]? = some y) (h : xs.take k = ys.take k) (he : x = y) : xs.take (k + 1) = ys.take (k + 1) := by
  rw [List.take_add_one, List.take_add_one, hx, hy, h, he]
theorem takes_ne {α : Type} [DecidableEq α] (xs ys : List α) (k : Nat) (x y : α) (hx : xs[k]? = some x) (hy : ys[k]? = some y) (he : x ≠ y) : decide (xs = ys) = false := by
  rw [decide_eq_false_iff_not]
  rintro rfl
  rw [hx] at hy
  exact he (Option.some.inj hy)
theorem takes_all {α : Type} [DecidableEq α] (xs ys : List α) (k : Nat) (hx : xs.length ≤ k) (hl : xs.length = ys.length) (h : xs.take k = ys.take k) : decide (xs = ys) = true := by
  rw [decide_eq_true_iff]
  rwa [List.take_of_length_le hx, List.take_of_length_le (by omega)] at h
theorem lens_ne {α : Type} [DecidableEq α] (xs ys : List α) (h : xs.length ≠ ys.length) : decide (xs = ys) = false := by
  rw [decide_eq_false_iff_not]
  rintro rfl
  exact h rfl
theorem mk_ne (x y : Tx) : ((mk x).toList == (mk y).toList) = decide (x = y) := by
  rw [Lib.toList_data, Lib.toList_data, mk_list, mk_list]
  rw [Bool.eq_iff_iff]
  simp
theorem rowAt_at {α : Type} {K : Nat → Prop} {R : World → Value → α → Prop} {w : World} {a : Option Addr} {xs : List α} (h : xs = [] ∨ ∃ b o, a = some ⟨b, o, none⟩ ∧ K b ∧ b < w.heap.size ∧ ∀ (j : Nat) x, xs[j]? = some x → ∃ u, w.cell? ⟨b, o + j, none⟩ = some u ∧ R w u x) (k : Nat) (hk : k < xs.length) :
    ∃ b o u, a = some ⟨b, o, none⟩ ∧ xs[k]? = some xs[k] ∧ w.cell? ⟨b, o + k, none⟩ = some u ∧ R w u xs[k] := by
  rcases h with h | ⟨b, o, ha, _, _, hc⟩
  · subst h; simp at hk
  · have hx := List.getElem?_eq_getElem hk
    obtain ⟨u, h1, h2⟩ := hc k _ hx
    exact ⟨b, o, u, ha, hx, h1, h2⟩

theorem quiet_sum {P : Program} {f : FuncId} {args : Array Value} {w : World} {q n : Nat} {v : Value}
    (h : Calls P f args (w.drewN (q + n)) fun e w' => e = .returned v ∧ ∃ m, w' = (w.drewN (q + n)).drewN m) : Calls P f args (w.drewN (q + n)) fun e w'' => e = .returned v ∧ ∃ n, w'' = w.drewN (q + n) :=
  h.mono fun _ _ ⟨he, m, hm⟩ => ⟨he, n + m, by rw [hm, World.drewN_drewN, Nat.add_assoc]⟩
end Go.Proofs.Ytpfpjbeofogbgaa.Cm
end

/-
  What cents.Good and Add answer, as contracts: for every int64.
-/
section
namespace Go.Proofs.Ytpfpjbeofogbgaa.Ce
open Go.RowKit

theorem good_any (a : Int) (w : World) :
    Calls Try.prog 57 #[.int .i64 a] w fun e w' => e = .returned (.bool (good a)) ∧ w' = w := by
  by_cases h0 : 0 ≤ a
  · by_cases h1 : a ≤ 10000000000000
    · have g : good a = true := (good_iff a).2 ⟨h0, h1⟩
      rw [g]
      go_enter Try.func57, Try.ntmps57
      go_wp2
      go_ret
      exact ⟨rfl, rfl⟩
    · have g : good a = false := (good_not a).2 (by omega)
      rw [g]
      go_enter Try.func57, Try.ntmps57
      go_wp2
      go_ret
      exact ⟨rfl, rfl⟩
  · have g : good a = false := (good_not a).2 (by omega)
    rw [g]
    go_enter Try.func57, Try.ntmps57
    go_wp2
    go_ret
    exact ⟨rfl, rfl⟩

end Go.Proofs.Ytpfpjbeofogbgaa.Ce
end

/-
  What the reference's Good answers, as contracts: for every int64.
-/
section
namespace Go.Proofs.Ytpfpjbeofogbgaa.Ce
open Go.RowKit

theorem rgood_any (a : Int) (w : World) :
    Calls Try.prog 59 #[.int .i64 a] w fun e w' => e = .returned (.bool (good a)) ∧ w' = w := by
  by_cases h0 : a < 0
  · have g : good a = false := (good_not a).2 (by omega)
    rw [g]
    go_enter Try.func59, Try.ntmps59
    go_wp2
    go_ret
    exact ⟨rfl, rfl⟩
  · by_cases h1 : 10000000000000 < a
    · have g : good a = false := (good_not a).2 (by omega)
      rw [g]
      go_enter Try.func59, Try.ntmps59
      go_wp2
      go_ret
      exact ⟨rfl, rfl⟩
    · have g : good a = true := (good_iff a).2 (by omega)
      rw [g]
      go_enter Try.func59, Try.ntmps59
      go_wp2
      go_ret
      exact ⟨rfl, rfl⟩

end Go.Proofs.Ytpfpjbeofogbgaa.Ce
end

/-
  What svc.opposite, good, checkCas and head answer, as contracts; the reference's good and cas.
-/
section
set_option linter.unusedSimpArgs false
set_option linter.unusedVariables false
set_option maxRecDepth 100000
namespace Go.Proofs.Ytpfpjbeofogbgaa.Sv
open Go.RowKit
open Bk (below_alloc below_trans alloc_new)
open Cm (mk_ne codeB)

def I64 (a : Int) : Prop := -9223372036854775808 ≤ a ∧ a ≤ 9223372036854775807
def opp (a : Int) : Int := if a = -9223372036854775808 then 9223372036854775807 else -a
theorem opp_any (a : Int) (w : World) (ha : I64 a) : Calls Try.prog 56 #[.int .i64 a] w fun e w' => e = .returned (.int .i64 (opp a)) ∧ w' = w := by
  obtain ⟨h1, h2⟩ := ha
  by_cases h : a = -9223372036854775808
  · rw [show opp a = 9223372036854775807 from if_pos h]
    subst h
    go_enter Try.func56, Try.ntmps56
    go_wp2
    go_ret
    exact ⟨rfl, rfl⟩
  · rw [show opp a = -a from if_neg h]
    have hb : (a == -9223372036854775808) = false := by simpa using h
    go_enter Try.func56, Try.ntmps56
    go_wp2
    go_ret
    exact ⟨rfl, rfl⟩
theorem good_opp (a : Int) (ha : I64 a) : Ce.good (opp a) = okM 22 a := by
  obtain ⟨h1, h2⟩ := ha
  rw [Bool.eq_iff_iff, Ce.good_iff, ok_back]
  unfold opp
  split <;> omega
theorem good_any (a st : Int) (w : World) (ha : I64 a) (hs : st = 1 ∨ st = 22) : Calls Try.prog 44 #[.int .i64 a, .int .i64 st] w fun e w' => e = .returned (.bool (okM st a)) ∧ w' = w := by
  have HO := Lib.hid (opp_any a w ha)
  have HG := Lib.hid (good_opp a ha)
  rcases hs with rfl | rfl
  · rw [show okM 1 a = Ce.good a from rfl]
    clear ha
    go_enter Try.func44, Try.ntmps44
    go_wp2_with (first | (go_at_call 57; refine (Ce.good_any _ _).mono ?_; rintro e w' ⟨rfl, rfl⟩))
    go_ret
    exact ⟨rfl, rfl⟩
  · rw [← HG.out]
    clear ha HG
    generalize opp a = b at *
    go_enter Try.func44, Try.ntmps44
    go_wp2_with (first | (go_at_call 57; refine (Ce.good_any _ _).mono ?_; rintro e w' ⟨rfl, rfl⟩) | (go_at_call 56; refine HO.out.mono ?_; rintro e w' ⟨rfl, rfl⟩))
    go_ret
    exact ⟨rfl, rfl⟩
theorem rgood_any (a st : Int) (w : World) : Calls Try.prog 47 #[.int .i64 st, .int .i64 a] w fun e w' => e = .returned (.bool (okM st a)) ∧ w' = w := by
  by_cases hs : st = 1
  · rw [show okM st a = Ce.good a from if_pos hs]
    subst hs
    go_enter Try.func47, Try.ntmps47
    go_wp2_with (first | (go_at_call 59; refine (Ce.rgood_any _ _).mono ?_; rintro e w' ⟨rfl, rfl⟩))
    go_ret
    exact ⟨rfl, rfl⟩
  · rw [show okM st a = (decide (a ≤ 0) && decide (-10000000000000 ≤ a)) from if_neg hs]
    have hb : (st == 1) = false := by simpa using hs
    by_cases h1 : a ≤ 0
    · have d1 : decide (a ≤ 0) = true := decide_eq_true h1
      rw [d1, Bool.true_and]
      go_enter Try.func47, Try.ntmps47
      go_wp2
      go_ret
      exact ⟨rfl, rfl⟩
    · have d1 : decide (a ≤ 0) = false := decide_eq_false h1
      rw [d1, Bool.false_and]
      go_enter Try.func47, Try.ntmps47
      go_wp2
      go_ret
      exact ⟨rfl, rfl⟩
theorem mk_tl (s : Tx) : (mk s).toList = s := by rw [Lib.toList_data, mk_list]
theorem cas_9 {st : Int} {c : Ca} (h : ¬ (c.grp = gCO ∨ c.grp = gPR ∨ c.grp = gOA)) : casE st c = 9 := if_neg h
theorem cas_9w {st : Int} {c : Ca} (h : c.why < 1 ∨ 999 < c.why) : casE st c = 9 := by
  unfold casE; split
  · rw [if_neg (by omega)]
  · rfl
theorem cas_8 {st : Int} {c : Ca} (h : c.grp = gCO ∨ c.grp = gPR ∨ c.grp = gOA) (h1 : 1 ≤ c.why) (h2 : c.why ≤ 999) (h3 : c.ct = 0 ∨ okM st c.ct = false) : casE st c = 8 := by
  unfold casE; rw [if_pos h, if_pos ⟨h1, h2⟩, if_neg (by rcases h3 with h3 | h3 <;> simp [h3])]
set_option maxHeartbeats 1000000 in
theorem checkCas_any (c : Ca) (st : Int) (w : World) (hc : I64 c.ct) (hs : st = 1 ∨ st = 22) : Calls Try.prog 55 #[cav c, .int .i64 st] w fun e w' => e = .returned (.int .i64 (casE st c)) ∧ Below w.heap.size w w' := by
  have HB := Lib.hid (below_alloc w (.cells (cae c) Tk))
  have HG := Lib.hid fun w => good_any c.ct st w hc hs
  clear hc hs
  have HX := Lib.hid (alloc_new w (cae c) Tk)
  go_enter Try.func55, Try.ntmps55
  go_upto_region 1 with fail
  generalize w.alloc (.cells (cae c) Tk) = W at *
  generalize hp : w.heap.size = p at *
  obtain ⟨x0, x1, x2⟩ := three HX.out
  go_wp2_with (first | (go_at_call 44; refine (HG.out _).mono ?_; rintro e w' ⟨rfl, rfl⟩))
  all_goals
    go_ret
    refine ⟨?_, by first | exact HB.out | (rw [hp]; exact HB.out)⟩
    clear HB HG HX x0 x1 x2
    simp only [mk_tl] at *
    first
    | (rw [cas_9w]; (· rfl); omega)
    | (rw [cas_9]; (· rfl); simp only [gCO, gPR, gOA]; simp_all; done)
    | (rw [cas_8 (st := st) (c := c)]; rfl; (simp only [gCO, gPR, gOA]; first | exact Or.inl ‹_› | exact Or.inr (Or.inl ‹_›) | exact Or.inr (Or.inr ‹_›) | (rename_i h; simp only [Bool.not_eq_false', beq_iff_eq] at h; rcases h with (h | h) | h; (exact Or.inl h); (exact Or.inr (Or.inl h)); exact Or.inr (Or.inr h))); omega; omega; first | exact Or.inl ‹c.ct = 0› | (have h := ‹(c.ct == 0) = true ∨ (!okM st c.ct) = true›; simpa using h))
    | (rw [cas_of (st := st) (c := c)]; rfl; (simp only [gCO, gPR, gOA]; first | exact Or.inl ‹_› | exact Or.inr (Or.inl ‹_›) | exact Or.inr (Or.inr ‹_›) | (rename_i h; simp only [Bool.not_eq_false', beq_iff_eq] at h; rcases h with (h | h) | h; (exact Or.inl h); (exact Or.inr (Or.inl h)); exact Or.inr (Or.inr h))); omega; exact ‹¬ c.ct = 0›; (have h := ‹(c.ct == 0) = false ∧ (!okM st c.ct) = false›; simpa using h.2))
set_option maxHeartbeats 1000000 in
theorem rcas_any (c : Ca) (st : Int) (w : World) : Calls Try.prog 58 #[.int .i64 st, cav c] w fun e w' => e = .returned (.int .i64 (casE st c)) ∧ Below w.heap.size w w' := by
  have HB := Lib.hid (below_alloc w (.cells (cae c) Tk))
  have HX := Lib.hid (alloc_new w (cae c) Tk)
  have HG := Lib.hid fun w => rgood_any c.ct st w
  go_enter Try.func58, Try.ntmps58
  go_upto_region 1 with fail
  generalize w.alloc (.cells (cae c) Tk) = W at *
  generalize hp : w.heap.size = p at *
  obtain ⟨x0, x1, x2⟩ := three HX.out
  go_wp2_with (first | (go_at_call 47; refine (HG.out _).mono ?_; rintro e w' ⟨rfl, rfl⟩))
  all_goals
    go_ret
    refine ⟨?_, by first | exact HB.out | (rw [hp]; exact HB.out)⟩
    clear HB HG HX x0 x1 x2
    simp only [mk_tl] at *
    first
    | (rw [cas_9w]; (· rfl); omega)
    | (rw [cas_9]; (· rfl); simp only [gCO, gPR, gOA]; simp_all; done)
    | (rw [cas_8 (st := st) (c := c)]; rfl; (simp only [gCO, gPR, gOA]; first | exact Or.inl ‹_› | exact Or.inr (Or.inl ‹_›) | exact Or.inr (Or.inr ‹_›) | (rename_i h; simp only [Bool.not_eq_false', beq_iff_eq] at h; rcases h with (h | h) | h; (exact Or.inl h); (exact Or.inr (Or.inl h)); exact Or.inr (Or.inr h))); omega; omega; first | exact Or.inl ‹c.ct = 0› | (have h := ‹(c.ct == 0) = true ∨ (!okM st c.ct) = true›; simpa using h))
    | (rw [cas_of (st := st) (c := c)]; rfl; (simp only [gCO, gPR, gOA]; first | exact Or.inl ‹_› | exact Or.inr (Or.inl ‹_›) | exact Or.inr (Or.inr ‹_›) | (rename_i h; simp only [Bool.not_eq_false', beq_iff_eq] at h; rcases h with (h | h) | h; (exact Or.inl h); (exact Or.inr (Or.inl h)); exact Or.inr (Or.inr h))); omega; exact ‹¬ c.ct = 0›; (have h := ‹(c.ct == 0) = false ∧ (!okM st c.ct) = false›; simpa using h.2))
def headE (id : Tx) (st n : Int) : Int := if codeB id 1 12 = true ∧ (st = 1 ∨ st = 22) then (if 1 ≤ n ∧ n ≤ 999 then 0 else 6) else 9
set_option maxHeartbeats 1000000 in
theorem head_any (id : Tx) (st n : Int) (w : World) (hs : id.length ≤ 9223372036854775807) : Calls Try.prog 41 #[.string (mk id), .int .i64 st, .int .i64 n] w fun e w' => e = .returned (.int .i64 (headE id st n)) ∧ w' = w := by
  have HC := Lib.hid (Cm.code_any id 1 12 w hs)
  unfold headE
  generalize codeB id 1 12 = R at *
  generalize mk id = X at *
  clear hs
  cases R with
  | false =>
    rw [if_neg (by simp)]
    go_enter Try.func41, Try.ntmps41
    go_wp2_with (first | (go_at_call 54; refine HC.out.mono ?_; rintro e w' ⟨rfl, rfl⟩))
    go_ret
    exact ⟨rfl, rfl⟩
  | true =>
    by_cases hs : st = 1 ∨ st = 22
    case neg =>
      rw [if_neg (fun h => hs h.2)]
      have n1 : (st != 1) = true := by simp; omega
      have n2 : (st != 22) = true := by simp; omega
      clear hs
      go_enter Try.func41, Try.ntmps41
      go_wp2_with (first | (go_at_call 54; refine HC.out.mono ?_; rintro e w' ⟨rfl, rfl⟩))
      go_ret
      exact ⟨rfl, rfl⟩
    rw [if_pos ⟨rfl, hs⟩]
    by_cases hn : 1 ≤ n ∧ n ≤ 999
    case neg =>
      rw [if_neg hn]
      by_cases h1 : n < 1
      · rcases hs with rfl | rfl <;>
        · go_enter Try.func41, Try.ntmps41
          go_wp2_with (first | (go_at_call 54; refine HC.out.mono ?_; rintro e w' ⟨rfl, rfl⟩))
          go_ret
          exact ⟨rfl, rfl⟩
      · have h2 : 999 < n := by omega
        clear hn
        rcases hs with rfl | rfl <;>
        · go_enter Try.func41, Try.ntmps41
          go_wp2_with (first | (go_at_call 54; refine HC.out.mono ?_; rintro e w' ⟨rfl, rfl⟩))
          go_ret
          exact ⟨rfl, rfl⟩
    rw [if_pos hn]
    obtain ⟨h1, h2⟩ := hn
    have h3 : ¬ n < 1 := by omega
    have h4 : ¬ 999 < n := by omega
    rcases hs with rfl | rfl <;>
    · go_enter Try.func41, Try.ntmps41
      go_wp2_with (first | (go_at_call 54; refine HC.out.mono ?_; rintro e w' ⟨rfl, rfl⟩))
      go_ret
      exact ⟨rfl, rfl⟩
end Go.Proofs.Ytpfpjbeofogbgaa.Sv
end
