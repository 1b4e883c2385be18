/-
  Rows of bytes that a call makes and fills: what append leaves of them, and the text that they are.
-/
import Derived.Test.YtmgjnjbiljpneaaIMath
import Derived.Test.YtmgjnjbiljpneaaLMem
import Derived.Lib.AppendStr
import Derived.Laws.AppendOwn
import Derived.Laws.OwnMore
import Derived.Laws.IdiomStrings
import Derived.Maps.AppendAt
set_option linter.unusedSimpArgs false
set_option linter.unusedVariables false
set_option maxRecDepth 100000
namespace Go.Proofs.Ytmgjnjbiljpneaa.Tw
open Go.RowKit
open Cm (Ln below_alloc below_trans)

theorem keepB {w w' : World} {q : Nat} {o : Obj} (h : w.heap[q]? = some o) (hb : Below w.heap.size w w') : w'.heap[q]? = some o := by
  rw [hb.block q (Array.getElem?_eq_some_iff.1 h).1]; exact h
theorem info8 : ∃ i, Try.prog.info? 5 = some i ∧ i.zero = some (.int .u8 0) ∧ i.size = 1 ∧ i.bytes = 1 := by
  have hi : (Try.prog.info? 5).map (fun i => (i.zero, i.size, i.bytes)) = some (some (.int .u8 0), 1, 1) := by kernel_rfl
  cases hq : Try.prog.info? 5 with
  | none => rw [hq] at hi; cases hi
  | some i =>
    rw [hq] at hi
    simp only [Option.map_some, Option.some.injEq, Prod.mk.injEq] at hi
    exact ⟨i, rfl, hi⟩
/-- A row of bytes of the call's own. -/
def Own (B : Nat) (w : World) (v : Value) (l : List UInt8) : Prop := w.ownsRow B 5 1 v l.length (Lib.strCells (mk l))
theorem str_app (a b : List UInt8) : Lib.strCells (mk a) ++ Lib.strCells (mk b) = Lib.strCells (mk (a ++ b)) := by
  simp [Lib.strCells, mk]
theorem mk_app (a b : List UInt8) : mk a ++ mk b = mk (a ++ b) := by
  unfold mk
  apply ByteArray.ext
  simp
theorem Own.nil (B : Nat) (w : World) : Own B w (.slice none 0 0) [] := World.ownsRow_nil _ _ _ _
theorem own_far {w w' : World} {B : Nat} {e : TypeId} {z : Nat} {v : Value} {n : Nat} {xs : List Value} (h : w.ownsRow B e z v n xs) (hb : Below w.heap.size w w') : w'.ownsRow B e z v n xs := by
  refine ⟨h.1, h.2.imp id ?_⟩
  rintro ⟨g, c, cur, rfl, h0, hh, hr⟩
  exact ⟨g, c, cur, rfl, h0, keepB hh hb, hr⟩
/-- What lies below the row's base stands where it grows. -/
theorem grow_low {w w' : World} {B : Nat} {e : TypeId} {z : Nat} {v : Value} {n : Nat} {xs : List Value} (ho : w.ownsRow B e z v n xs) (hg : w.grownBy w' v.ownBlock) (hB : B ≤ w.heap.size) : Below B w w' :=
  ⟨hg.os, hg.tape, hg.output, hg.size, fun k hk => hg.block k (by omega) (fun e => by have := (ho.lt k e.symm).1; omega)⟩

/-- append(v, c), c a byte. -/
theorem app_one {ops : Array Oper} {rest : List Oper} {o : Oper} {a : Act} {w : World} {Q : Exit → Act → World → Prop} (hgd : o.guard = none) (s x : Operand) (ho : o.op = .call { callee := .builtin .append, args := #[s, x], argTypes := #[42, 42] })
    (B : Nat) (v : Value) (l : List UInt8) (hs : a.eval s = v) (hown : Own B w v l) (b k : Nat) (n : Int) (c : UInt8) (hx : a.eval x = .slice (some ⟨b, 0, none⟩) 1 k) (hn : n = (c.toNat : Int))
    (hc : w.cell? ⟨b, 0, none⟩ = some (.int .u8 n)) (hl : l.length ≤ 1000000000) (hB : B ≤ w.heap.size)
    (h : ∀ v' w', Own B w' v' (l ++ [c]) → Below B w w' → wpList Try.prog ops Q rest (a.put o.dst v') w') : wpList Try.prog ops Q (o :: rest) a w := by
  obtain ⟨i, q1, q2, q3, q4⟩ := info8
  subst hn
  refine wpList_append_own _ hgd s x 42 ho B 5 i _ 1 1 Try.underlying42 q1 q2 q3 q4 rfl (by decide) v l.length (Lib.strCells (mk l)) hs hown ⟨b, 0, none⟩ 1 k [.int .u8 c.toNat] hx rfl (fun j u hj => ?_) (fun u hu => ?_) (by unfold maxLen; omega) (by omega) hB fun v' w' ho' hg _ => ?_
  · match j, hj with
    | 0, hj =>
      rw [show (⟨b, 0, none⟩ : Addr).add 0 = ⟨b, 0, none⟩ by unfold Addr.add; split <;> simp_all, hc]
      exact hj
    | j + 1, hj => simp at hj
  · simp at hu
    rw [hu]; rfl
  · refine h v' w' ?_ (grow_low hown hg hB)
    unfold Own
    rw [← str_app, List.length_append]
    exact ho'
/-- append(v, s...), s a text. -/
theorem app_str {ops : Array Oper} {rest : List Oper} {o : Oper} {a : Act} {w : World} {Q : Exit → Act → World → Prop} (hgd : o.guard = none) (s x : Operand) (ho : o.op = .call { callee := .builtin .append, args := #[s, x], argTypes := #[42, 9] })
    (B : Nat) (v : Value) (l t : List UInt8) (hs : a.eval s = v) (hown : Own B w v l) (hx : a.eval x = .string (mk t)) (hl : l.length ≤ 1000000000) (ht : t.length ≤ 1000000000) (hB : B ≤ w.heap.size)
    (h : ∀ v' w', Own B w' v' (l ++ t) → Below B w w' → wpList Try.prog ops Q rest (a.put o.dst v') w') : wpList Try.prog ops Q (o :: rest) a w := by
  obtain ⟨i, q1, q2, q3, q4⟩ := info8
  refine Lib.wpList_append_own_string _ hgd s x 42 9 ho B 5 i Try.underlying42 Try.underlying9 q1 q2 q3 q4 v l.length (Lib.strCells (mk l)) hs hown (mk t) hx (by rw [mk_size]; unfold maxLen; omega) (by rw [mk_size]; omega) hB fun v' w' ho' hg _ => ?_
  refine h v' w' ?_ (grow_low hown hg hB)
  unfold Own
  rw [← str_app, List.length_append, ← mk_size t]
  exact ho'
/-- string(v). -/
theorem conv_own {B : Nat} {w : World} {v : Value} {l : List UInt8} (h : Own B w v l) (hl : 0 < l.length) : (convert 42 9 v).run Try.prog w = .ok (.string (mk l)) w := by
  obtain ⟨h0, h1 | ⟨g, cap, cur, rfl, hr⟩⟩ := h
  · exact absurd h1.2 (by omega)
  · have hc := World.ownsRow.cells (g := g) (w := w) (base := B) (e := 5) (size := 1) (xs := Lib.strCells (mk l)) (v := .slice (some ⟨g, 0, none⟩) l.length cap) (n := l.length) ⟨h0, Or.inr ⟨g, cap, cur, rfl, hr⟩⟩ rfl
    refine run_convert_bytes_back (P := Try.prog) w 42 9 5 ⟨g, 0, none⟩ cap l Try.underlying42 Try.underlying5 Try.underlying9 (fun j hj => ?_)
    refine hc j _ ?_
    simp [Lib.strCells, mk, List.getElem?_eq_getElem hj]
end Go.Proofs.Ytmgjnjbiljpneaa.Tw
