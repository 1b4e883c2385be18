/-
  Texts put together (merge.py): MMk, MMap, MById, MTk2.
-/
import Derived.Maps.Own
import Derived.Maps.OwnSet
import Derived.Maps.Views
import Derived.Carry
import Derived.BigQuiet
import Derived.Deep.Cut
import Derived.Test.YtpfpjbeofogbgaaMm14
import Derived.Test.YtpfpjbeofogbgaaMm15
import Derived.Test.YtpfpjbeofogbgaaMm2
set_option linter.unusedSimpArgs false
set_option linter.unusedVariables false
section
set_option maxRecDepth 100000
namespace Go.Proofs.Ytpfpjbeofogbgaa.Re
open Go.RowKit
open Sv (Ca Sr Cp SvsAt CasAt CpsAt CpCells cpv cpe cp0 CpOk SrOk checkE svcE ofE ofV Bd)
open Bk (En)
open Cm (codeB)
def makeR (n : Int) (told : List Cp) (l : List En) (held : Int) : Rm := if makeE n told l held = 0 then ⟨n, paidV (sum (mkO told l)) held, heldV (sum (mkO told l)) held, mkO told l⟩ else rm0
def makeN (n : Int) (told : List Cp) (l : List En) (held : Int) : List Cp := if makeE n told l held = 0 then mkN l else []
def makeK (n : Int) (told : List Cp) (l : List En) (held : Int) : Int := if makeE n told l held = 0 then restV (sum (mkO told l)) held else 0
def MkV (n : Int) (told : List Cp) (l : List En) (held : Int) (w : World) (e : Ending) (w' : World) : Prop :=
 (∃ m v, e = .returned (.tuple #[rmv (makeR n told l held) m, v, .int .i64 (makeK n told l held), .int .i64 (makeE n told l held)]) ∧ CpsAt (fun b => w.heap.size ≤ b) w' m (makeR n told l held).cs ∧ CpsAt (fun b => w.heap.size ≤ b) w' v (makeN n told l held)) ∧ Below w.heap.size w w'
theorem mk_no {n : Int} {told : List Cp} {l : List En} {held E : Int} {w w' : World} (h : makeE n told l held = E) (hE : E ≠ 0) (hb : Below w.heap.size w w') : MkV n told l held w (.returned (.tuple #[rmv rm0 (.slice none 0 0), .slice none 0 0, .int .i64 0, .int .i64 E])) w' := by
 have h0 : makeE n told l held ≠ 0 := by rw [h]; exact hE
 refine ⟨⟨.slice none 0 0, .slice none 0 0, ?_, ?_, ?_⟩, hb⟩
 ·unfold makeR makeK; rw [if_neg h0, if_neg h0, h]
 ·unfold makeR; rw [if_neg h0]; exact cps_nil _ _
 ·unfold makeN; rw [if_neg h0]; exact cps_nil _ _
theorem mk_yes {n : Int} {told : List Cp} {l : List En} {held : Int} {w w' : World} {m v : Value} (h : makeE n told l held = 0) (hb : Below w.heap.size w w') (h1 : CpsAt (fun b => w.heap.size ≤ b) w' m (mkO told l)) (h2 : CpsAt (fun b => w.heap.size ≤ b) w' v (mkN l)) :
  MkV n told l held w (.returned (.tuple #[rmv ⟨n, paidV (sum (mkO told l)) held, heldV (sum (mkO told l)) held, mkO told l⟩ m, v, .int .i64 (restV (sum (mkO told l)) held), .int .i64 0])) w' := by
 refine ⟨⟨m, v, ?_, ?_, ?_⟩, hb⟩
 ·unfold makeR makeK; rw [if_pos h, if_pos h, h]
 ·unfold makeR; rw [if_pos h]; exact h1
 ·unfold makeN; rw [if_pos h]; exact h2
theorem entO_len (W : List Cp) (y : En) : (entO W y).length ≤ 2 := by
 unfold entO
 have hb : (backO (findC W y.cl.id)).length ≤ 1 := by cases findC W y.cl.id <;> simp [backO]
 split
 ·split
  ·simp
  ·simp; omega
 ·omega
theorem mkO_len : ∀ (l : List En) (W : List Cp), (mkO W l).length ≤ 2 * l.length
 | [], W => by simp [mkO]
 | y :: l, W => by
  have h1 := entO_len W y
  have h2 := mkO_len l (without W y.cl.id)
  simp only [mkO, List.length_append, List.length_cons]
  omega
theorem cpOk_of {x : Cp} (h : checkE x = 0) : CpOk x := by
 obtain ⟨⟨h1, h2⟩, h3, h4, -⟩ := (Sv.check_iff x).1 h
 have a := paid_bd h
 have b := mem_bd h
 have c : (x.id.length : Int) ≤ 12 := by
  simp only [codeB, Bool.and_eq_true, decide_eq_true_eq] at h1
  exact h1.1.2
 refine ⟨?_, ?_, ?_, ?_, by omega, by omega, fun s hs => ?_⟩
 ·unfold Sv.I64; rcases h2 with e | e <;> rw [e] <;> omega
 iterate 3
  ·unfold Sv.I64; omega
 ·obtain ⟨b1, b2, b3, b4⟩ := Sv.bdS_of (h4 s hs)
  have b5 := ((Sv.svc_iff x.st s).1 (h4 s hs)).1
  unfold Bd at b1 b2 b4
  refine ⟨?_, ?_, fun k hk => ?_, ?_⟩
  iterate 2
   ·unfold Sv.I64; omega
  ·have := b4 k hk; unfold Sv.I64; omega
  ·simp only [codeB, Bool.and_eq_true, decide_eq_true_eq] at b5
   have := b5.1.2
   omega
theorem told_of {told : List Cp} (h : toldE [] told = 0) : (ids told).Nodup ∧ ∀ x ∈ told, x.st = 1 ∧ checkE x = 0 := told_ok.1 h
theorem mkO_bd {told : List Cp} {l : List En} (h : toldE [] told = 0) (h2 : mkE told l = 0) : ∀ x ∈ mkO told l, checkE x = 0 ∧ Bd x.paid := fun x hx => by
 have h3 := mk_checks l told (told_of h).2 h2 x hx
 have h4 := (paid_bd h3).1
 exact ⟨h3, by unfold Bd; omega⟩
theorem mkO_sum {told : List Cp} {l : List En} (h : toldE [] told = 0) (h2 : mkE told l = 0) (hl : l.length ≤ 1000) : (-10000000000000 * 2000 ≤ sum (mkO told l) ∧ sum (mkO told l) ≤ 10000000000000 * 2000) := by
 have h1 := mkO_len l told
 have h3 : ∀ (m : List Cp), (∀ x ∈ m, checkE x = 0) → -10000000000000 * (m.length : Int) ≤ sum m ∧ sum m ≤ 10000000000000 * (m.length : Int) := by
  intro m
  induction m with
  | nil => intro _; simp [sum]
  | cons x r ih =>
   intro hm
   have a := ih fun y hy => hm y (List.mem_cons_of_mem _ hy)
   have b := (paid_bd (hm x (List.mem_cons_self ..))).1
   simp only [sum, List.length_cons]
   push_cast
   omega
 have h4 := h3 (mkO told l) fun x hx => (mkO_bd h h2 x hx).1
 omega
theorem held_bd {s held : Int} (h1 : -10000000000000 * 2000 ≤ s) (h2 : s ≤ 10000000000000 * 2000) (h3 : 0 ≤ held) (h4 : held ≤ 1152921504606846976) : (-20000000000000000 ≤ heldV s held ∧ heldV s held ≤ 1152921504606846976) ∧ IntKind.i64.wrap (s - heldV s held) = paidV s held ∧ IntKind.i64.wrap (held - heldV s held) = restV s held := by
 unfold paidV restV
 have h5 : -20000000000000000 ≤ heldV s held ∧ heldV s held ≤ 1152921504606846976 := by unfold heldV; split <;> omega
 refine ⟨h5, ?_, ?_⟩ <;> rw [IntKind.wrap_i64] <;> omega
theorem make_1 {n held : Int} {told : List Cp} {l : List En} (h : ¬ ((0 ≤ n ∧ n ≤ 999999999) ∧ 0 ≤ held ∧ held ≤ 1152921504606846976)) : makeE n told l held = 1 := if_neg h
theorem make_2 {n held : Int} {told : List Cp} {l : List En} (h : (0 ≤ n ∧ n ≤ 999999999) ∧ 0 ≤ held ∧ held ≤ 1152921504606846976) (h2 : toldE [] told ≠ 0) : makeE n told l held = toldE [] told := by unfold makeE; rw [if_pos h, if_neg h2]
theorem make_3 {n held : Int} {told : List Cp} {l : List En} (h : (0 ≤ n ∧ n ≤ 999999999) ∧ 0 ≤ held ∧ held ≤ 1152921504606846976) (h2 : toldE [] told = 0) : makeE n told l held = mkE told l := by unfold makeE; rw [if_pos h, if_pos h2]
end Go.Proofs.Ytpfpjbeofogbgaa.Re
end
section
set_option maxRecDepth 100000
namespace Go.Proofs.Ytpfpjbeofogbgaa.Re
open Go.RowKit Go.Maps
open Sv (Ca Sr Cp SvsAt CasAt CpsAt CpCells cpv cpe cp0)
abbrev TM : TypeId := 59
theorem law9 : Keyed Try.prog 9 := string_keyed Try.underlying9
def heldE (v : Value) : Option (DataW Value × List MemPlace) := some (.held v, [])
abbrev zc : Value := cpv cp0 (.slice none 0 0)
theorem zeroC (w : World) : (zeroValue 38).run Try.prog w = .ok zc w := by kernel_rfl
theorem key9 (s : List UInt8) (hs : s.length ≤ 1000000000000000) : keyOf Try.prog 9 (.string (mk s)) = some (.string s) := by
 have := Go.WideMaps.keyOf_string_mk (P := Try.prog) Try.underlying9 (s := mk s) (by rw [mk_size]; unfold maxLen; omega)
 rwa [mk_list] at this
def MpIs (K : Nat → Prop) (w : World) (q n : Nat) (W : List Cp) : Prop :=
 (∃ D : DataW Value, w.ownsMap Try.prog 9 heldE q n D ∧ Maps.size D = W.length ∧ (∀ s : List UInt8, Maps.has D (.string s) = hasB W s) ∧ ∀ s, ∃ m, D.atKey (.string s) (.held zc) = .held (cpv ((findC W s).getD cp0) m) ∧ SvsAt K w m ((findC W s).getD cp0).svs)
theorem mp_new (K : Nat → Prop) (w : World) : MpIs K (w.alloc (.map #[] 0)) w.heap.size 0 [] := ⟨.map [], World.ownsMap_made _ _ _ _, rfl, fun s => rfl, fun s => ⟨_, rfl, SvsAt.nil _ _⟩⟩
theorem MpIs.lt {K : Nat → Prop} {w : World} {q n : Nat} {W : List Cp} (h : MpIs K w q n W) : q < w.heap.size := by
 obtain ⟨D, h1, _⟩ := h; exact h1.lt
theorem MpIs.keep {K : Nat → Prop} {w w' : World} {q n : Nat} {W : List Cp} (h : MpIs K w q n W) (he : w'.heap[q]? = w.heap[q]?) (hm : Moves K K w w') : MpIs K w' q n W := by
 obtain ⟨D, ⟨es, clock, hh, r⟩, h2, h3, h4⟩ := h
 exact ⟨D, ⟨es, clock, he.trans hh, r⟩, h2, h3, fun s => by obtain ⟨m, q1, q2⟩ := h4 s; exact ⟨m, q1, q2.move hm⟩⟩
theorem MpIs.grw {K : Nat → Prop} {w w' : World} {q n : Nat} {W : List Cp} (h : MpIs K w q n W) (hb : Below w.heap.size w w') : MpIs K w' q n W := h.keep (hb.block q h.lt) ⟨hb.size, fun b hlt k => ⟨k, hb.block b hlt⟩⟩
theorem find_isSome (W : List Cp) (s : Tx) : (findC W s).isSome = hasB W s := by
 induction W with
 | nil => rfl
 | cons x l ih =>
  unfold findC
  by_cases h : x.id = s
  ·rw [if_pos h]; simp [hasB, h]
  ·rw [if_neg h, ih]; simp [hasB, h]
theorem mp_run {K : Nat → Prop} {w : World} {q n : Nat} {W : List Cp} (h : MpIs K w q n W) (s : List UInt8) (hs : s.length ≤ 1000000000000000) : ∃ m, (Instr.lookup TM (.map (some q)) (.string (mk s)) true).run Try.prog w = .ok (.tuple #[cpv ((findC W s).getD cp0) m, .bool (hasB W s)]) w ∧ SvsAt K w m ((findC W s).getD cp0).svs := by
 obtain ⟨D, h1, h2, h3, h4⟩ := h
 obtain ⟨m, q1, q2⟩ := h4 s
 obtain ⟨v, ps, hr, hv⟩ := h1.look_ok law9 Try.underlying59 (zeroC w) (zd := .held zc) (zp := []) rfl (key9 s hs)
 rw [q1] at hv
 unfold heldE at hv
 simp only [Option.some.injEq, Prod.mk.injEq, DataW.held.injEq] at hv
 exact ⟨m, by rw [hr, hv.1, h3 s], q2⟩
theorem find_app (W : List Cp) (x : Cp) (s : Tx) (hx : hasB W x.id = false) : findC (W ++ [x]) s = if x.id = s then some x else findC W s := by
 induction W with
 | nil => rfl
 | cons y l ih =>
  have hy : hasB l x.id = false := by simp [hasB] at hx ⊢; exact hx.2
  have hne : y.id ≠ x.id := by simp [hasB] at hx; exact hx.1
  rw [List.cons_append, findC, findC, ih hy]
  by_cases h : x.id = s
  ·subst h; rw [if_neg hne, if_pos rfl, if_pos rfl]
  ·rw [if_neg h, if_neg h]
theorem has_app (W : List Cp) (x : Cp) (s : Tx) : hasB (W ++ [x]) s = (hasB W s || decide (x.id = s)) := by simp [hasB]
theorem mp_put {K : Nat → Prop} {w : World} {q n : Nat} {W : List Cp} (h : MpIs K w q n W) (hn : n ≤ 1000000000000000) (x : Cp) (hs : x.id.length ≤ 1000000000000000) (hx : hasB W x.id = false) (m : Value) (hm : SvsAt K w m x.svs) (hK : ¬ K q) :
  ∃ w', (Instr.mapUpdate TM (.map (some q)) (.string (mk x.id)) (cpv x m)).run Try.prog w = .ok () w' ∧ MpIs K w' q (n + 1) (W ++ [x]) ∧ w.grownBy w' (some q) := by
 obtain ⟨D, h1, h2, h3, h4⟩ := h
 have hd : Maps.has D (.string x.id) = false := (h3 x.id).trans hx
 obtain ⟨w', hr, q1, q2⟩ := h1.update law9 Try.underlying59 (by unfold maxLen; omega) (key9 x.id hs) (val := cpv x m) (d := .held (cpv x m)) (ps := []) rfl
 have hmv : Moves K K w w' := ⟨q2.size, fun b hb k => ⟨k, q2.block b hb (fun e => hK (by injection e with e; exact e ▸ k))⟩⟩
 refine ⟨w', hr, ⟨_, q1, ?_, fun t => ?_, fun t => ?_⟩, q2⟩
 ·rw [Maps.size_put (h1.tidy law9), hd, h2]; simp
 ·rw [has_app]
  by_cases e : x.id = t
  ·subst e
   rw [has_put_same (k := .string x.id) h1.isMap True.intro]; simp
  ·rw [has_put_other (fun h => e (by injection h with h; exact h.symm)), h3 t]; simp [e]
 ·rw [find_app W x t hx]
  by_cases e : x.id = t
  ·subst e
   rw [if_pos rfl, atKey_put_same (k := .string x.id) h1.isMap True.intro]
   exact ⟨m, rfl, hm.move hmv⟩
  ·rw [if_neg e, atKey_put_other (fun h => e (by injection h with h; exact h.symm))]
   obtain ⟨m', r1, r2⟩ := h4 t
   exact ⟨m', r1, r2.move hmv⟩
theorem find_without (W : List Cp) (s t : Tx) : findC (without W s) t = if t = s then none else findC W t := by
 induction W with
 | nil => simp [without, findC]
 | cons y l ih =>
  by_cases h : y.id = s
  ·have e : without (y :: l) s = without l s := by simp [without, h]
   rw [e, ih]
   by_cases h2 : t = s
   ·rw [if_pos h2, if_pos h2]
   ·rw [if_neg h2, if_neg h2, findC, if_neg (fun e => h2 (e.symm.trans h))]
  ·have e : without (y :: l) s = y :: without l s := by simp [without, h]
   rw [e, findC, ih, findC]
   by_cases h2 : t = s
   ·subst h2; rw [if_neg h, if_pos rfl, if_pos rfl]
   ·rw [if_neg h2, if_neg h2]
theorem has_find (W : List Cp) (s : Tx) : hasB W s = (findC W s).isSome := (find_isSome W s).symm
theorem without_len : ∀ (W : List Cp) (s : Tx), (ids W).Nodup → (without W s).length + (if hasB W s = true then 1 else 0) = W.length
 | [], s, _ => rfl
 | y :: l, s, h => by
  have h2 := List.nodup_cons.1 (by simpa [ids] using h : (y.id :: ids l).Nodup)
  by_cases e : y.id = s
  ·have e1 : without (y :: l) s = without l s := by simp [without, e]
   have e2 : without l s = l := without_none l s (e ▸ h2.1)
   have e3 : hasB (y :: l) s = true := by simp [hasB, e]
   rw [e1, e2, e3]; rfl
  ·have e1 : without (y :: l) s = y :: without l s := by simp [without, e]
   have e3 : hasB (y :: l) s = hasB l s := by simp [hasB, e]
   have := without_len l s h2.2
   rw [e1, e3]; simp only [List.length_cons]; omega
theorem grown_turned {w w' : World} {b : Nat} (h : w.mapTurned w' b) : w.grownBy w' (some b) := h.grown
theorem mp_del {K : Nat → Prop} {w : World} {q n : Nat} {W : List Cp} (h : MpIs K w q n W) (hN : (ids W).Nodup) (s : List UInt8) (hs : s.length ≤ 1000000000000000) (hK : ¬ K q) (ty : TypeId) :
  ∃ w', (Builtin.delete_ #[TM, 9] ty #[.map (some q), .string (mk s)]).run Try.prog w = .ok (.tuple #[]) w' ∧ MpIs K w' q n (without W s) ∧ w.grownBy w' (some q) := by
 obtain ⟨D, h1, h2, h3, h4⟩ := h
 obtain ⟨w', hr, q1, q2⟩ := h1.drop law9 Try.underlying59 (key9 s hs) ty
 have hg := grown_turned q2
 have hmv : Moves K K w w' := ⟨hg.size, fun b hb k => ⟨k, hg.block b hb (fun e => hK (by injection e with e; exact e ▸ k))⟩⟩
 refine ⟨w', hr, ⟨_, q1, ?_, fun t => ?_, fun t => ?_⟩, hg⟩
 ·have e1 := Maps.size_del (k := .string s) (h1.tidy law9)
  rw [h3 s, h2] at e1
  have e2 := without_len W s hN
  omega
 ·rw [has_find (without W s), find_without]
  by_cases e : t = s
  ·subst e; rw [if_pos rfl, has_del_same]; rfl
  ·rw [if_neg e, has_del_other (fun h => e (by injection h)), h3 t, has_find]
 ·rw [find_without]
  by_cases e : t = s
  ·subst e; rw [if_pos rfl, atKey_del_same]
   exact ⟨_, rfl, SvsAt.nil _ _⟩
  ·rw [if_neg e, atKey_del_other (fun h => e (by injection h))]
   obtain ⟨m', r1, r2⟩ := h4 t
   exact ⟨m', r1, r2.move hmv⟩
theorem mp_len {K : Nat → Prop} {w : World} {q n : Nat} {W : List Cp} (h : MpIs K w q n W) (ty : TypeId) : (Builtin.len_ #[TM] ty #[.map (some q)]).run Try.prog w = .ok (.int .i64 W.length) w := by
 obtain ⟨D, h1, h2, h3, h4⟩ := h
 rw [h1.len Try.underlying59 ty, h2]
theorem run_makeMapN (n : Int) (w : World) : (Instr.makeMap TM (some (.int .i64 n))).run Try.prog w = .ok (.map (some w.heap.size)) (w.alloc (.map #[] 0)) := by kernel_rfl
section
variable {ops : Array Oper} {rest : List Oper} {o : Oper} {a : Act} {w : World} {Q : Exit → Act → World → Prop}
theorem look_op (hgd : o.guard = none) (m x : Operand) (ho : o.op = Op.lookup TM m x true) (K : Nat → Prop) (q n : Nat) (W : List Cp) (hm : a.eval m = .map (some q)) (h : MpIs K w q n W) (s : List UInt8) (hs : s.length ≤ 1000000000000000) (hx : a.eval x = .string (mk s)) (B : Bool) (hB : hasB W s = B)
  (hK : ∀ m, SvsAt K w m ((findC W s).getD cp0).svs → wpList Try.prog ops Q rest (a.put o.dst (.tuple #[cpv ((findC W s).getD cp0) m, .bool B])) w) : wpList Try.prog ops Q (o :: rest) a w := by
 refine wpList_plain hgd fun K' hK' => ?_
 obtain ⟨v, hrun, hv⟩ := mp_run h s hs
 rw [hB] at hrun
 unfold Oper.wp
 simp [execOp, ho, hm, hx, hrun, Result.andThen]
 exact hK' _ _ (hK v hv)
theorem put_op (hgd : o.guard = none) (m x v : Operand) (ho : o.op = Op.mapUpdate TM m x v) (K : Nat → Prop) (q n : Nat) (W : List Cp) (hm : a.eval m = .map (some q)) (h : MpIs K w q n W) (hn : n ≤ 1000000000000000) (y : Cp) (hs : y.id.length ≤ 1000000000000000) (hy : hasB W y.id = false) (u : Value) (hu : SvsAt K w u y.svs) (hq : ¬ K q) (hx : a.eval x = .string (mk y.id)) (hv : a.eval v = cpv y u)
  (hK : ∀ w', MpIs K w' q (n + 1) (W ++ [y]) → w.grownBy w' (some q) → wpList Try.prog ops Q rest (a.put o.dst undef) w') : wpList Try.prog ops Q (o :: rest) a w := by
 refine wpList_plain hgd fun K' hK' => ?_
 obtain ⟨w', hrun, r1, r2⟩ := mp_put h hn y hs hy u hu hq
 unfold Oper.wp
 simp [execOp, ho, hm, hx, hv, hrun, Result.andThen]
 exact hK' _ _ (hK w' r1 r2)
theorem del_op (hgd : o.guard = none) (m x : Operand) (ho : o.op = Op.call { callee := Callee.builtin Builtin.delete, args := #[m, x], argTypes := #[TM, 9] }) (K : Nat → Prop) (q n : Nat) (W : List Cp) (hm : a.eval m = .map (some q)) (h : MpIs K w q n W) (hN : (ids W).Nodup) (s : List UInt8) (hs : s.length ≤ 1000000000000000) (hq : ¬ K q) (hx : a.eval x = .string (mk s))
  (hK : ∀ w', MpIs K w' q n (without W s) → w.grownBy w' (some q) → wpList Try.prog ops Q rest (a.put o.dst (.tuple #[])) w') : wpList Try.prog ops Q (o :: rest) a w := by
 refine wpList_plain hgd fun K' hK' => ?_
 obtain ⟨w', hrun, r1, r2⟩ := mp_del h hN s hs hq o.type
 unfold Oper.wp
 simp [execOp, ho, resolve, invoke, builtin, hm, hx, hrun, Result.andThen]
 exact hK' _ _ (hK w' r1 r2)
theorem len_op (hgd : o.guard = none) (m : Operand) (ho : o.op = Op.call { callee := Callee.builtin Builtin.len, args := #[m], argTypes := #[TM] }) (K : Nat → Prop) (q n : Nat) (W : List Cp) (hm : a.eval m = .map (some q)) (h : MpIs K w q n W)
  (hK : wpList Try.prog ops Q rest (a.put o.dst (.int .i64 W.length)) w) : wpList Try.prog ops Q (o :: rest) a w := by
 refine wpList_plain hgd fun K' hK' => ?_
 unfold Oper.wp
 simp [execOp, ho, resolve, invoke, builtin, hm, mp_len h o.type, Result.andThen]
 exact hK' _ _ hK
end
end Go.Proofs.Ytpfpjbeofogbgaa.Re
end
section
set_option maxRecDepth 100000
namespace Go.Proofs.Ytpfpjbeofogbgaa.Re
open Go.RowKit
open Sv (Ca Sr Cp SvsAt CasAt CpsAt CpCells cpv cpe cp0 four six CpOk checkE)
open Bk (keepB heap_far below_alloc below_trans alloc_new heap_set add_lit)
def ByV (l : List Cp) (w : World) (e : Ending) (w' : World) : Prop :=
 (∃ mv, e = .returned (.tuple #[mv, .int .i64 (toldE [] l)]) ∧ (toldE [] l = 0 → ∃ q n, mv = .map (some q) ∧ w.heap.size ≤ q ∧ n ≤ 1000000 ∧ MpIs (fun b => b < w.heap.size) w' q n l) ∧ (toldE [] l ≠ 0 → mv = .map none)) ∧ Below w.heap.size w w'
theorem by_no {l : List Cp} {w w' : World} {E : Int} (h : toldE [] l = E) (hE : E ≠ 0) (hb : Below w.heap.size w w') : ByV l w (.returned (.tuple #[.map none, .int .i64 E])) w' :=
 ⟨⟨_, by rw [h], fun h0 => absurd (h.symm.trans h0) hE, fun _ => rfl⟩, hb⟩
theorem told_step {l : List Cp} {k : Nat} {x : Cp} (hx : l[k]? = some x) {E : Int} (h : toldE (l.take k) (l.drop k) = E) :
  (hasB (l.take k) x.id = true → E = 12) ∧ (hasB (l.take k) x.id = false → ((x.st = 1 ∧ checkE x = 0) → toldE (l.take (k + 1)) (l.drop (k + 1)) = E) ∧ (¬ (x.st = 1 ∧ checkE x = 0) → E = 1)) ∧ l.take (k + 1) = l.take k ++ [x] := by
 obtain ⟨hl, e⟩ := List.getElem?_eq_some_iff.1 hx
 have ht : l.take (k + 1) = l.take k ++ [x] := by rw [List.take_add_one, hx]; rfl
 rw [List.drop_eq_getElem_cons hl, e] at h
 unfold toldE at h
 refine ⟨fun hb => ?_, fun hb => ⟨fun hc => ?_, fun hc => ?_⟩, ht⟩
 ·rw [if_pos hb] at h; exact h.symm
 ·rw [if_neg (by rw [hb]; simp), if_pos hc] at h; rw [ht]; exact h
 ·rw [if_neg (by rw [hb]; simp), if_neg hc] at h; exact h.symm
theorem told_end {l : List Cp} {k : Nat} (hk : l.length ≤ k) {E : Int} (h : toldE (l.take k) (l.drop k) = E) : E = 0 ∧ l.take k = l := by
 rw [List.drop_eq_nil_of_le hk] at h
 exact ⟨h.symm, List.take_of_length_le hk⟩
theorem cps_low {w : World} {v : Value} {l : List Cp} (h : CpsAt All w v l) : CpsAt (fun b => b < w.heap.size) w v l := Sv.CpsAt.move h (moves_weak w fun b hb _ => hb)
set_option maxHeartbeats 8000000 in
theorem byId_any (l : List Cp) (v : Value) (w : World) (h : CpsAt All w v l) (hz : ∀ x ∈ l, CpOk x) (hl : l.length ≤ 1000) :
  Calls Try.prog 25 #[v] w fun e w' => ByV l w e w' := by
 have hmk := run_makeMapN
 obtain ⟨a, cap, rfl, f1, f2⟩ := h.form
 have hlow := cps_low h
 have HM : Hid (∀ w', Below w.heap.size w w' → CpsAt (fun b => b < w.heap.size) w' (.slice a l.length cap) l) := fun w' hb => Sv.CpsAt.move hlow ⟨hb.size, fun b _ hlt => ⟨hlt, hb.block b hlt⟩⟩
 have HZ := Lib.hid hz
 have HMP : Hid (MpIs (fun b => b < w.heap.size) (w.alloc (.map #[] 0)) w.heap.size 0 []) := mp_new _ w
 have HB0 : Hid (Below w.heap.size w (w.alloc (.map #[] 0))) := below_alloc w _
 obtain ⟨E, hE⟩ : ∃ E, toldE [] l = E := ⟨_, rfl⟩
 have HE0 : Hid (toldE (l.take 0) (l.drop 0) = E) := hE
 have HNO : Hid (∀ w', E ≠ 0 → Below w.heap.size w w' → ByV l w (.returned (.tuple #[.map none, .int .i64 E])) w') := fun w' h0 hb => by_no hE h0 hb
 have HYS : Hid (∀ w' n, E = 0 → Below w.heap.size w w' → n ≤ 1000000 → MpIs (fun b => b < w.heap.size) w' w.heap.size n l → ByV l w (.returned (.tuple #[.map (some w.heap.size), .int .i64 0])) w') := fun w' n h0 hb hn hm => ⟨⟨_, by rw [hE, h0], fun _ => ⟨_, n, rfl, Nat.le_refl _, hn, hm⟩, fun h1 => absurd (hE.trans h0) h1⟩, hb⟩
 clear h hz hlow hE
 go_enter Try.func25, Try.ntmps25
 go_upto_region 2 with fail
 have HSZ : Hid (w.heap.size < (w.alloc (.map #[] 0)).heap.size) := HMP.out.lt
 generalize w.alloc (.map #[] 0) = W0 at *
 generalize hp : w.heap.size = p at *
 clear hmk
 go_wp2
 go_loopg [14] (l.length) (fun gg t14 wr => ∃ (k n : Nat), k ≤ l.length ∧ gg = l.length - k ∧ t14 = .int .i64 k ∧ n ≤ k ∧ Hid (MpIs (fun b => b < p) wr p n (l.take k)) ∧ Hid (toldE (l.take k) (l.drop k) = E) ∧ Hid (Below p w wr))
 case atStart => exact ⟨0, 0, Nat.zero_le _, rfl, rfl, Nat.le_refl _, HMP.out, HE0.out, HB0.out⟩
 case round =>
  obtain ⟨k, n, hk, hg, rfl, hnk, HMk, HEk, HBk⟩ := hrel
  by_cases hlt : k < l.length
  case neg =>
   have hltz : ¬ (k : Int) < (l.length : Int) := by omega
   obtain ⟨hE0, ht⟩ := told_end (by omega) HEk.out
   have HF := Lib.hid (HYS.out wr n hE0 HBk.out (by omega) (by have := HMk.out; rwa [ht] at this))
   clear hE0 ht
   go_wp2
   go_ret2
   exact HF.out
  have hltz : (k : Int) < (l.length : Int) := by omega
  obtain ⟨b, o, m, rfl, hbl, hx, hcell, hr⟩ := Sv.CpsAt.get (HM.out _ HBk.out) k hlt
  obtain ⟨t1, t2, t3⟩ := told_step hx HEk.out
  have HZx := Lib.hid (HZ.out _ (List.mem_of_getElem? hx))
  have hi1 : k < l.length := hlt
  generalize l[k] = x at *
  have T1 := Lib.hid t1
  have T2 := Lib.hid t2
  have T3 := Lib.hid t3
  obtain ⟨am, nm, cm, rfl⟩ : ∃ am nm cm, m = .slice am nm cm := by
   obtain ⟨q1, q2, q3, -, -⟩ := SvsAt.form hr
   exact ⟨q1, _, q2, q3⟩
  obtain ⟨c0, c1, c2, c3, c4, c5⟩ := id hcell
  obtain ⟨wo, rfl⟩ : ∃ z, z = wr := ⟨_, rfl⟩
  have HPo : Hid (p < wo.heap.size) := HMk.out.lt
  have HR : Hid (∀ W, Below wo.heap.size wo W → SvsAt (fun b => b < p) W (.slice am nm cm) x.svs) := fun W hW => hr.move ⟨hW.size, fun b hb hk => ⟨hk, hW.block b hb⟩⟩
  have HX1 := Lib.hid (alloc_new wo (cpe x (.slice am nm cm)) 38)
  have HB1 := Lib.hid (below_alloc wo (.cells (cpe x (.slice am nm cm)) 38))
  have HIL : Hid (x.id.length ≤ 1000000000000000) := by have := HZx.out.2.2.2.2.1; show _ ≤ _; omega
  clear hx hcell hr hbl t1 t2 t3
  go_upto_region 5 with fail
  generalize wo.alloc (.cells (cpe x (.slice am nm cm)) 38) = W1 at *
  generalize hpo : wo.heap.size = po at *
  have HPB : Hid (po ≤ W1.heap.size) := by have := HB1.out.size; rw [hpo] at this; exact this
  obtain ⟨x0, x1, x2, x3, x4, x5⟩ := six HX1.out
  have HM1 : Hid (MpIs (fun b => b < p) W1 p n (l.take k)) := by subst hpo; exact HMk.out.grw HB1.out
  have HBW1 : Hid (Below p w W1) := HBk.out.trans (HB1.out.mono (by have := HPo.out; omega))
  have HR1 : Hid (SvsAt (fun b => b < p) W1 (.slice am nm cm) x.svs) := by subst hpo; exact HR.out W1 HB1.out
  clear c0 c1 c2 c3 c4 c5 HR
  obtain ⟨V, HV⟩ : ∃ V, Hid (hasB (l.take k) x.id = V) := ⟨_, rfl⟩
  obtain ⟨F, HF⟩ : ∃ F, Hid ((findC (l.take k) x.id).getD cp0 = F) := ⟨_, rfl⟩
  go_upto_region 6 with (first
   | (at_lookup; refine look_op rfl _ _ rfl (fun b => b < p) p n (l.take k) rfl HM1.out x.id HIL.out rfl V HV.out ?_; rw [HF.out]; intro mf hmf; obtain ⟨af, nf, cf, rfl⟩ : ∃ af nf cf, mf = .slice af nf cf := (by obtain ⟨q1, q2, q3, -, -⟩ := SvsAt.form hmf; exact ⟨q1, _, q2, q3⟩); clear hmf; have HX2 := Lib.hid (keepB HX1.out (below_alloc W1 (.cells (cpe F (.slice af nf cf)) 38))); have HM2 := Lib.hid (HM1.out.grw (below_alloc W1 (.cells (cpe F (.slice af nf cf)) 38))); have HR2 : Hid (SvsAt (fun b => b < p) (W1.alloc (.cells (cpe F (.slice af nf cf)) 38)) (.slice am nm cm) x.svs) := HR1.out.move ⟨by simp, fun b hb hk => ⟨hk, (below_alloc W1 _).block b hb⟩⟩; have HBW2 : Hid (Below p w (W1.alloc (.cells (cpe F (.slice af nf cf)) 38))) := HBW1.out.trans ((below_alloc W1 _).mono (by have := HPo.out; have := HPB.out; omega)); have HSZ2 : Hid (p < (W1.alloc (.cells (cpe F (.slice af nf cf)) 38)).heap.size) := HM2.out.lt)
   | go_in)
  generalize W1.alloc (.cells (cpe F (.slice af nf cf)) 38) = W2 at *
  clear x0 x1 x2 x3 x4 x5 HM1 HBW1 HR1 HX1 HB1 HF
  obtain ⟨x0, x1, x2, x3, x4, x5⟩ := six HX2.out
  cases V
  case true =>
   have hE := T1.out HV.out
   have HFI := Lib.hid (HNO.out W2 (by omega) HBW2.out)
   rw [hE] at HFI
   clear hE
   go_wp2
   go_ret2
   exact HFI.out
  obtain ⟨u1, u2⟩ := T2.out HV.out
  have U1 := Lib.hid u1
  have U2 := Lib.hid u2
  clear u1 u2
  have HCK := Lib.hid (Sv.check_any x (.slice am nm cm) W2 (HR2.out.all) HZx.out)
  by_cases hst : x.st = 1
  case neg =>
   have hE := U2.out (fun h => hst h.1)
   have HFI := Lib.hid (HNO.out W2 (by omega) HBW2.out)
   rw [hE] at HFI
   have hbs : (x.st != 1) = true := by simpa using hst
   clear hE hst
   go_wp2
   go_ret2
   exact HFI.out
  have hbs : (x.st != 1) = false := by simpa using hst
  have HST := Lib.hid hst
  clear hst
  by_cases hck : checkE x = 0
  case neg =>
   have hE := U2.out (fun h => hck h.2)
   have HFI : Hid (∀ W3, Below W2.heap.size W2 W3 → ByV l w (.returned (.tuple #[.map none, .int .i64 1])) W3) := fun W3 hb => by
    have := HNO.out W3 (by omega) (HBW2.out.trans (hb.mono (by have := HSZ2.out; omega)))
    rwa [hE] at this
   have hbc : (checkE x != 0) = true := by simpa using hck
   generalize checkE x = EE at *
   clear hE hck
   go_wp2_with (first | (go_at_call 31; refine HCK.out.mono ?_; rintro e w4 ⟨rfl, hg4⟩; have HB4 := Lib.hid hg4; clear hg4))
   go_ret2
   exact HFI.out _ HB4.out
  have HEK := Lib.hid (U1.out ⟨HST.out, hck⟩)
  rw [hck] at HCK
  clear hck HNO HYS T1 T2 U1 U2
  have HM3 : Hid (∀ W3, Below W2.heap.size W2 W3 → MpIs (fun b => b < p) W3 p n (l.take k)) := fun W3 hb => HM2.out.grw hb
  have HR3 : Hid (∀ W3, Below W2.heap.size W2 W3 → SvsAt (fun b => b < p) W3 (.slice am nm cm) x.svs) := fun W3 hb => HR2.out.move ⟨hb.size, fun b hb' hk => ⟨hk, hb.block b hb'⟩⟩
  have HB3 : Hid (∀ W3 W4, Below W2.heap.size W2 W3 → W3.grownBy W4 (some p) → Below p w W4) := fun W3 W4 hb hg => by
   have h1 : Below p w W3 := HBW2.out.trans (hb.mono (by have := HSZ2.out; omega))
   exact h1.grown hg (by have := HSZ2.out; have := hb.size; omega) (fun j hj => by injection hj with hj; omega)
  have HX3 : Hid (∀ W3, Below W2.heap.size W2 W3 → W3.heap[po]? = some (.cells (cpe x (.slice am nm cm)) 38 (0, 0))) := fun W3 hb => keepB HX2.out hb
  go_wp2_with (first
   | (go_at_call 31; refine HCK.out.mono ?_; rintro e w4 ⟨rfl, hg4⟩; have HB4 := Lib.hid hg4; clear hg4; obtain ⟨y0, y1, y2, y3, y4, y5⟩ := six (HX3.out w4 HB4.out))
   | (at_mapUpdate; refine put_op rfl _ _ _ rfl (fun b => b < p) p n (l.take k) rfl (HM3.out _ HB4.out) (by omega) x HIL.out HV.out (.slice am nm cm) (HR3.out _ HB4.out) (Nat.lt_irrefl p) rfl rfl ?_; intro w5 hm5 hg5; have HM5 := Lib.hid hm5; have HB5 := Lib.hid (HB3.out _ _ HB4.out hg5); clear hm5 hg5)
   | go_in)
  go_roundg (l.length - (k + 1))
  case measure => omega
  case rel => exact ⟨k + 1, n + 1, by omega, rfl, by go_num, by omega, by have := HM5.out; rw [← T3.out] at this; exact this, HEK.out, HB5.out⟩
end Go.Proofs.Ytpfpjbeofogbgaa.Re
end
section
set_option maxRecDepth 100000
namespace Go.Proofs.Ytpfpjbeofogbgaa.Re
open Go.RowKit
open Sv (Ca Sr Cp SvsAt CasAt CpsAt CpCells cpv cpe cp0 CpOk checkE ofE ofV)
open Bk (En keepB heap_far below_alloc below_trans alloc_new heap_set add_lit)
theorem grown_of {w w' : World} (hb : Below w.heap.size w w') (row : Option Nat) : w.grownBy w' row := ⟨hb.os, hb.tape, hb.output, hb.size, fun b hlt _ => hb.block b hlt⟩
def TkV (B : Nat) (v v2 : Value) (L L2 : List Cx) (V : Bool) (x : Cp) (w : World) (e : Ending) (w' : World) : Prop :=
 ∃ v' M, e = .returned v' ∧ M.map (·.c) = (if V = true then [Sv.back x] else []) ∧ Two B w' v' v2 (L ++ M) L2 ∧ w.grownBy w' v.ownBlock ∧ (v'.ownBlock = v.ownBlock ∨ ∃ g, v'.ownBlock = some g ∧ w.heap.size ≤ g)
theorem take_any (B : Nat) (v v2 : Value) (L L2 : List Cx) (V : Bool) (x : Cp) (m : Value) (w : World) (h : Two B w v v2 L L2) (hB : B ≤ w.heap.size) (hbd : L.length ≤ 900000) (hm : SvsAt All w m x.svs) (hV : V = true → CpOk x ∧ checkE x = 0) :
  Calls Try.prog 34 #[v, cpv x m, .bool V] w fun e w' => TkV B v v2 L L2 V x w e w' := by
 cases V with
 | false =>
  have hv : ∃ a n c, v = .slice a n c := by
   obtain ⟨q1, q2, q3, -, -⟩ := h.o1.form
   exact ⟨q1, _, q2, q3⟩
  have hmv : ∃ a n c, m = .slice a n c := by
   obtain ⟨q1, q2, q3, -, -⟩ := hm.form
   exact ⟨q1, _, q2, q3⟩
  refine (take_no v hv x m hmv w).mono ?_
  rintro e w' ⟨rfl, hb⟩
  exact ⟨v, [], rfl, rfl, by rw [List.append_nil]; exact h.grw hb, grown_of hb _, Or.inl rfl⟩
 | true =>
  obtain ⟨z1, z2⟩ := hV rfl
  refine (take_yes B v L x m w h.o1 hB hbd hm z1 z2).mono ?_
  rintro e w' ⟨v', u, rfl, ho, hg, hv, hs⟩
  refine ⟨v', [⟨Sv.back x, u⟩], rfl, rfl, ?_, hg, hv⟩
  have hm : Moves (Ofs B v v2) (Ofs B v' v2) w w' := ⟨hg.size, fun b hb k => ⟨⟨k.1, by
   rcases hv with e | ⟨g, e, hge⟩
   ·rw [e]; exact k.2.1
   ·rw [e]; intro q; injection q with q; omega, k.2.2⟩, hg.block b hb (fun e => k.2.1 e.symm)⟩⟩
  refine ⟨ho, h.o2.keep fun g e => hg.block g (h.o2.lt e).2 (fun q => h.ne g q.symm e), fun g e q => ?_, fun y hy => ?_, fun y hy => (h.c2 y hy).move hm⟩
  ·rcases hv with r | ⟨g', r, hg'⟩
   ·exact h.ne g (r ▸ e) q
   ·rw [r] at e; injection e with e; have := (h.o2.lt q).2; omega
  ·rcases List.mem_append.1 hy with hy | hy
   ·exact (h.c1 y hy).move hm
   ·simp at hy; subst hy
    exact hs.move (moves_weak w' fun b _ k => ⟨by omega, k.2, fun e => by have := (h.o2.lt e).2; omega⟩)
theorem find_is {W : List Cp} {s : Tx} {V : Bool} {F : Cp} (hV : hasB W s = V) (hF : (findC W s).getD cp0 = F) : findC W s = if V = true then some F else none := by
 rw [has_find] at hV
 cases hf : findC W s with
 | none => rw [hf] at hV; simp at hV; subst hV; rfl
 | some k => rw [hf] at hV hF; simp at hV hF; subst hV hF; rfl
theorem back_if {W : List Cp} {s : Tx} {V : Bool} {F : Cp} (h : findC W s = if V = true then some F else none) : backO (findC W s) = if V = true then [Sv.back F] else [] := by
 rw [h]; cases V <;> rfl
theorem ent_dead {W : List Cp} {y : En} {V : Bool} {F : Cp} (h : findC W y.cl.id = if V = true then some F else none) (hs : y.st ≠ 0) : entE y = 0 ∧ entO W y = (if V = true then [Sv.back F] else []) ∧ entN y = [] := by
 unfold entE entO entN
 rw [if_neg hs, if_neg hs, if_neg hs, back_if h]
 exact ⟨rfl, rfl, rfl⟩
theorem ent_bad {y : En} (hs : y.st = 0) : entE y = ofE y.cl y.outs := by unfold entE; rw [if_pos hs]
theorem ent_new {W : List Cp} {y : En} {V : Bool} {F : Cp} (h : findC W y.cl.id = if V = true then some F else none) (hs : y.st = 0) : entN y = [ofV y.cl y.outs] ∧ (V = true → sameB F (ofV y.cl y.outs) = true → entO W y = []) ∧ ((V = true → sameB F (ofV y.cl y.outs) = false) → entO W y = (if V = true then [Sv.back F] else []) ++ [ofV y.cl y.outs]) := by
 unfold entO entN
 rw [if_pos hs, if_pos hs, back_if h, h]
 refine ⟨rfl, fun hv hd => ?_, fun hd => ?_⟩
 ·subst hv
  exact if_pos hd
 ·cases V with
  | false => exact if_neg (by simp [isB])
  | true => exact if_neg (by simp only [if_true, isB, nowV]; rw [hd rfl]; simp)
theorem chg_step {l : List En} {k : Nat} {y : En} (hx : l[k]? = some y) {W O N : List Cp} {E : Int} {A A' : List Cp} (h1 : mkE W (l.drop k) = E) (h2 : E = 0 → A ++ mkO W (l.drop k) = O) (h3 : E = 0 → A' ++ mkN (l.drop k) = N) :
  (entE y ≠ 0 → E = entE y) ∧ (entE y = 0 → mkE (without W y.cl.id) (l.drop (k + 1)) = E ∧ (E = 0 → (A ++ entO W y) ++ mkO (without W y.cl.id) (l.drop (k + 1)) = O) ∧ (E = 0 → (A' ++ entN y) ++ mkN (l.drop (k + 1)) = N)) := by
 obtain ⟨hl, e⟩ := List.getElem?_eq_some_iff.1 hx
 rw [List.drop_eq_getElem_cons hl, e] at h1 h2 h3
 simp only [mkE] at h1
 refine ⟨fun h => ?_, fun h => ⟨?_, fun h0 => ?_, fun h0 => ?_⟩⟩
 ·rw [if_neg h] at h1; exact h1.symm
 ·rw [if_pos h] at h1; exact h1
 ·rw [← h2 h0]; simp only [mkO, List.append_assoc]
 ·rw [← h3 h0]; simp only [mkN, List.append_assoc]
theorem chg_end {l : List En} {k : Nat} (hk : l.length ≤ k) {W O N : List Cp} {E : Int} {A A' : List Cp} (h1 : mkE W (l.drop k) = E) (h2 : E = 0 → A ++ mkO W (l.drop k) = O) (h3 : E = 0 → A' ++ mkN (l.drop k) = N) :
  (E = if W.length = 0 then 0 else 13) ∧ (E = 0 → A = O ∧ A' = N) := by
 rw [List.drop_eq_nil_of_le hk] at h1 h2 h3
 refine ⟨h1.symm, fun h0 => ⟨?_, ?_⟩⟩
 ·have := h2 h0; simpa [mkO] using this
 ·have := h3 h0; simpa [mkN] using this
theorem same_dec (x y : Cp) : (∀ d : Decidable (x = y), @decide (x = y) d = sameB x y) := fun d => by
 rw [Bool.eq_iff_iff, decide_eq_true_iff, same_iff]
end Go.Proofs.Ytpfpjbeofogbgaa.Re
end
