/-
  Texts put together (merge.py): ZMem, IMem, HTake.
-/
import Derived.Lib.AppendStr
import Derived.Laws.AppendOwn
import Derived.Laws.OwnMore
import Derived.Laws.IdiomStrings
import Derived.Maps.AppendAt
import Derived.OneCell
import Derived.Lib.Hide
import Derived.Test.YtfoooldkmokjpaaGreatDoorMj3
import Derived.Test.YtfoooldkmokjpaaGreatDoorMj4
import Derived.Test.YtfoooldkmokjpaaGreatDoorMj7
import Derived.Test.YtfoooldkmokjpaaGreatDoorMj13
import Derived.Test.YtfoooldkmokjpaaGreatDoorMj1
import Derived.Test.YtfoooldkmokjpaaGreatDoorMj2
set_option linter.unusedSimpArgs false
set_option linter.unusedVariables false
section
namespace Go.Proofs.YtfoooldkmokjpaaGreatDoor.Fe
open Go.RowKit
open Wo (keepB box_cell box_two heap_far below_alloc below_trans)
def fc (f : Fee) : List Value := [.string (mk f.proc), .string (mk f.mod), .int .i64 f.net, .int .i64 f.frm, .int .i64 f.cents]
abbrev fev (f : Fee) : Value := .agg #[.string (mk f.proc), .string (mk f.mod), .int .i64 f.net, .int .i64 f.frm, .int .i64 f.cents]
abbrev plv (f : Fee) : Value := .agg #[.string (mk f.proc), .string (mk f.mod), .int .i64 f.net, .int .i64 f.frm]
def FeCells (w : World) (b o : Nat) (f : Fee) : Prop :=
 w.cell? ⟨b, o, none⟩ = some (.string (mk f.proc)) ∧ w.cell? ⟨b, o + 1, none⟩ = some (.string (mk f.mod)) ∧ w.cell? ⟨b, o + 2, none⟩ = some (.int .i64 f.net) ∧ w.cell? ⟨b, o + 3, none⟩ = some (.int .i64 f.frm) ∧ w.cell? ⟨b, o + 4, none⟩ = some (.int .i64 f.cents)
theorem FeCells.of {w w' : World} {b o : Nat} {x : Fee} (h : FeCells w b o x) (he : w'.heap[b]? = w.heap[b]?) : FeCells w' b o x := by
 obtain ⟨h0, h1, h2, h3, h4⟩ := h
 refine ⟨?_, ?_, ?_, ?_, ?_⟩ <;> rw [World.cell?_of_block (w := w) he] <;> assumption
def FesAt (K : Nat → Prop) (w : World) (v : Value) (l : List Fee) : Prop :=
 ∃ a c, v = .slice a l.length c ∧ l.length ≤ c ∧ c ≤ maxLen ∧ (l = [] ∨ ∃ b o, a = some ⟨b, o, none⟩ ∧ K b ∧ b < w.heap.size ∧ ∀ (j : Nat) x, l[j]? = some x → FeCells w b (o + j * 5) x)
theorem FesAt.move {K K' : Nat → Prop} {w w' : World} {v : Value} {l : List Fee} (h : FesAt K w v l) (hm : Moves K K' w w') : FesAt K' w' v l := by
 obtain ⟨a, c, rfl, h1, h2, h3⟩ := h
 refine ⟨a, c, rfl, h1, h2, h3.imp id ?_⟩
 rintro ⟨b, o, rfl, hk, hb, hc⟩
 obtain ⟨k', hh⟩ := hm.2 b hb hk
 exact ⟨b, o, rfl, k', Nat.lt_of_lt_of_le hb hm.1, fun j x hj => (hc j x hj).of hh⟩
theorem FesAt.grw {w w' : World} {v : Value} {l : List Fee} (h : FesAt All w v l) (hb : Below w.heap.size w w') : FesAt All w' v l := h.move (Below.moves hb)
theorem FesAt.nil (K : Nat → Prop) (w : World) : FesAt K w (.slice none 0 0) [] := ⟨none, 0, rfl, by simp, by simp [maxLen], Or.inl rfl⟩
theorem FesAt.form {K : Nat → Prop} {w : World} {v : Value} {xs : List Fee} (h : FesAt K w v xs) : ∃ a c, v = .slice a xs.length c ∧ xs.length ≤ c ∧ c ≤ 9223372036854775807 := by
 obtain ⟨a, c, rfl, h1, h2, _⟩ := h
 exact ⟨a, c, rfl, h1, by unfold maxLen at h2; exact h2⟩
theorem FesAt.get {K : Nat → Prop} {w : World} {a : Option Addr} {n c : Nat} {ls : List Fee} (h : FesAt K w (.slice a n c) ls) (k : Nat) (hk : k < ls.length) :
  ∃ b o, a = some ⟨b, o, none⟩ ∧ b < w.heap.size ∧ ls[k]? = some ls[k] ∧ FeCells w b (o + k * 5) ls[k] := by
 obtain ⟨a', c', he, h1, h2, h3⟩ := h
 have ha : a = a' := by injection he
 subst ha
 rcases h3 with h | ⟨b, o, ha, _, hb, hc⟩
 ·subst h; simp at hk
 ·have hx := List.getElem?_eq_getElem hk
  exact ⟨b, o, ha, hb, hx, hc k _ hx⟩
def Grew (w w' : World) : Prop := Below w.heap.size w w' ∧ w.drawn ≤ w'.drawn
theorem Grew.refl (w : World) : Grew w w := ⟨Below.refl _ _, Nat.le_refl _⟩
theorem Grew.trans {a b c : World} (h : Grew a b) (k : Grew b c) : Grew a c := ⟨below_trans h.1 k.1, Nat.le_trans h.2 k.2⟩
theorem Grew.alloc {a b : World} (h : Grew a b) (o : Obj) : Grew a (b.alloc o) := ⟨below_trans h.1 (below_alloc b o), h.2⟩
theorem Grew.drew {a b : World} (h : Grew a b) : Grew a b.drew := ⟨Below.drew h.1, Nat.le_trans h.2 (Nat.le_succ _)⟩
end Go.Proofs.YtfoooldkmokjpaaGreatDoor.Fe
end
section
set_option maxRecDepth 100000
namespace Go.Proofs.YtfoooldkmokjpaaGreatDoor.Tw
open Go.RowKit
open Cm (Ln below_alloc below_trans)
theorem keepB {w w' : World} {q : Nat} {o : Obj} (h : w.heap[q]? = some o) (hb : Below w.heap.size w w') : w'.heap[q]? = some o := by
 rw [hb.block q (Array.getElem?_eq_some_iff.1 h).1]; exact h
theorem info8 : ∃ i, Tryz.prog.info? 5 = some i ∧ i.zero = some (.int .u8 0) ∧ i.size = 1 ∧ i.bytes = 1 := by
 have hi : (Tryz.prog.info? 5).map (fun i => (i.zero, i.size, i.bytes)) = some (some (.int .u8 0), 1, 1) := by kernel_rfl
 cases hq : Tryz.prog.info? 5 with
 | none => rw [hq] at hi; cases hi
 | some i =>
  rw [hq] at hi
  simp only [Option.map_some, Option.some.injEq, Prod.mk.injEq] at hi
  exact ⟨i, rfl, hi⟩
def Own (B : Nat) (w : World) (v : Value) (l : List UInt8) : Prop := w.ownsRow B 5 1 v l.length (Lib.strCells (mk l))
theorem str_app (a b : List UInt8) : Lib.strCells (mk a) ++ Lib.strCells (mk b) = Lib.strCells (mk (a ++ b)) := by
 simp [Lib.strCells, mk]
theorem Own.nil (B : Nat) (w : World) : Own B w (.slice none 0 0) [] := World.ownsRow_nil _ _ _ _
theorem own_far {w w' : World} {B : Nat} {e : TypeId} {z : Nat} {v : Value} {n : Nat} {xs : List Value} (h : w.ownsRow B e z v n xs) (hb : Below w.heap.size w w') : w'.ownsRow B e z v n xs := by
 refine ⟨h.1, h.2.imp id ?_⟩
 rintro ⟨g, c, cur, rfl, h0, hh, hr⟩
 exact ⟨g, c, cur, rfl, h0, keepB hh hb, hr⟩
theorem grow_low {w w' : World} {B : Nat} {e : TypeId} {z : Nat} {v : Value} {n : Nat} {xs : List Value} (ho : w.ownsRow B e z v n xs) (hg : w.grownBy w' v.ownBlock) (hB : B ≤ w.heap.size) : Below B w w' :=
 ⟨hg.os, hg.tape, hg.output, hg.size, fun k hk => hg.block k (by omega) (fun e => by have := (ho.lt k e.symm).1; omega)⟩
theorem app_one {ops : Array Oper} {rest : List Oper} {o : Oper} {a : Act} {w : World} {Q : Exit → Act → World → Prop} (hgd : o.guard = none) (s x : Operand) (ho : o.op = .call { callee := .builtin .append, args := #[s, x], argTypes := #[133, 133] })
  (B : Nat) (v : Value) (l : List UInt8) (hs : a.eval s = v) (hown : Own B w v l) (b k : Nat) (n : Int) (c : UInt8) (hx : a.eval x = .slice (some ⟨b, 0, none⟩) 1 k) (hn : n = (c.toNat : Int))
  (hc : w.cell? ⟨b, 0, none⟩ = some (.int .u8 n)) (hl : l.length ≤ 1000000000) (hB : B ≤ w.heap.size)
  (h : ∀ v' w', Own B w' v' (l ++ [c]) → Below B w w' → wpList Tryz.prog ops Q rest (a.put o.dst v') w') : wpList Tryz.prog ops Q (o :: rest) a w := by
 obtain ⟨i, q1, q2, q3, q4⟩ := info8
 subst hn
 refine wpList_append_own _ hgd s x 133 ho B 5 i _ 1 1 Tryz.underlying133 q1 q2 q3 q4 rfl (by decide) v l.length (Lib.strCells (mk l)) hs hown ⟨b, 0, none⟩ 1 k [.int .u8 c.toNat] hx rfl (fun j u hj => ?_) (fun u hu => ?_) (by unfold maxLen; omega) (by omega) hB fun v' w' ho' hg _ => ?_
 ·match j, hj with
  | 0, hj =>
   rw [show (⟨b, 0, none⟩ : Addr).add 0 = ⟨b, 0, none⟩ by unfold Addr.add; split <;> simp_all, hc]
   exact hj
  | j + 1, hj => simp at hj
 ·simp at hu
  rw [hu]; rfl
 ·refine h v' w' ?_ (grow_low hown hg hB)
  unfold Own
  rw [← str_app, List.length_append]
  exact ho'
theorem app_str {ops : Array Oper} {rest : List Oper} {o : Oper} {a : Act} {w : World} {Q : Exit → Act → World → Prop} (hgd : o.guard = none) (s x : Operand) (ho : o.op = .call { callee := .builtin .append, args := #[s, x], argTypes := #[133, 9] })
  (B : Nat) (v : Value) (l t : List UInt8) (hs : a.eval s = v) (hown : Own B w v l) (hx : a.eval x = .string (mk t)) (hl : l.length ≤ 1000000000) (ht : t.length ≤ 1000000000) (hB : B ≤ w.heap.size)
  (h : ∀ v' w', Own B w' v' (l ++ t) → Below B w w' → wpList Tryz.prog ops Q rest (a.put o.dst v') w') : wpList Tryz.prog ops Q (o :: rest) a w := by
 obtain ⟨i, q1, q2, q3, q4⟩ := info8
 refine Lib.wpList_append_own_string _ hgd s x 133 9 ho B 5 i Tryz.underlying133 Tryz.underlying9 q1 q2 q3 q4 v l.length (Lib.strCells (mk l)) hs hown (mk t) hx (by rw [mk_size]; unfold maxLen; omega) (by rw [mk_size]; omega) hB fun v' w' ho' hg _ => ?_
 refine h v' w' ?_ (grow_low hown hg hB)
 unfold Own
 rw [← str_app, List.length_append, ← mk_size t]
 exact ho'
theorem conv_own {B : Nat} {w : World} {v : Value} {l : List UInt8} (h : Own B w v l) (hl : 0 < l.length) : (convert 133 9 v).run Tryz.prog w = .ok (.string (mk l)) w := by
 obtain ⟨h0, h1 | ⟨g, cap, cur, rfl, hr⟩⟩ := h
 ·exact absurd h1.2 (by omega)
 ·have hc := World.ownsRow.cells (g := g) (w := w) (base := B) (e := 5) (size := 1) (xs := Lib.strCells (mk l)) (v := .slice (some ⟨g, 0, none⟩) l.length cap) (n := l.length) ⟨h0, Or.inr ⟨g, cap, cur, rfl, hr⟩⟩ rfl
  refine run_convert_bytes_back (P := Tryz.prog) w 133 9 5 ⟨g, 0, none⟩ cap l Tryz.underlying133 Tryz.underlying5 Tryz.underlying9 (fun j hj => ?_)
  refine hc j _ ?_
  simp [Lib.strCells, mk, List.getElem?_eq_getElem hj]
end Go.Proofs.YtfoooldkmokjpaaGreatDoor.Tw
end
section
namespace Go.Proofs.YtfoooldkmokjpaaGreatDoor.Sh
open Go.RowKit
theorem keepB {w w' : World} {q : Nat} {o : Obj} (h : w.heap[q]? = some o) (hb : Below w.heap.size w w') : w'.heap[q]? = some o := by
 rw [hb.block q (Array.getElem?_eq_some_iff.1 h).1]; exact h
theorem below_alloc (w : World) (o : Obj) : Below w.heap.size w (w.alloc o) := (Below.refl _ w).alloc (Nat.le_refl _) o
theorem below_trans {a b c : World} (h : Below a.heap.size a b) (k : Below b.heap.size b c) : Below a.heap.size a c := h.trans (k.mono h.size)
theorem alloc_new (w : World) (cs : Array Value) (t : TypeId) : (w.alloc (.cells cs t)).heap[w.heap.size]? = some (.cells cs t (0, 0)) := heap_alloc_new w _
theorem box_cell {w : World} {q : Nat} {v : Value} {T : TypeId} (h : w.heap[q]? = some (.cells #[v] T (0, 0))) : w.cell? ⟨q, 0, none⟩ = some v ∧ w.frozen? ⟨q, 0, none⟩ = false :=
 ⟨cell_of_one h, free_of_one h⟩
def Took (q : Nat) (l : Int) (w w' : World) : Prop :=
 w'.heap.size = w.heap.size ∧ w'.heap[q]? = some (.cells #[.int .i64 l] 2 (0, 0)) ∧ (∀ b, b ≠ q → w'.heap[b]? = w.heap[b]?) ∧ Below q w w'
theorem Took.keep {q : Nat} {l : Int} {w w' : World} (h : Took q l w w') {b : Nat} {o : Obj} (hb : w.heap[b]? = some o) (hne : b ≠ q) : w'.heap[b]? = some o := by
 rw [h.2.2.1 b hne]; exact hb
theorem from_any (n : Int) (w : World) :
  Calls Tryz.prog 136 #[.int .i64 n] w fun e w' => e = .returned (.func (.func 160) #[] #[.pointer (some ⟨w.heap.size, 0, none⟩)]) ∧ w' = w.alloc (.cells #[.int .i64 n] 2) := by
 have hmf : ∀ (fn : Fn) (first cap : Array Value) (w : World), (Instr.makeFunc fn first cap).run Tryz.prog w = .ok (.func fn first cap) w := fun _ _ _ _ => rfl
 go_enter Tryz.func136, Tryz.ntmps136
 go_wp2
 go_ret
 exact ⟨rfl, rfl⟩
theorem from_new (n : Int) (w : World) :
  Calls Tryz.prog 136 #[.int .i64 n] w fun e w' => e = .returned (.func (.func 160) #[] #[.pointer (some ⟨w.heap.size, 0, none⟩)]) ∧ w'.heap[w.heap.size]? = some (.cells #[.int .i64 n] 2 (0, 0)) ∧ Below w.heap.size w w' := by
 refine (from_any n w).mono ?_
 rintro e w' ⟨rfl, rfl⟩
 exact ⟨rfl, alloc_new w _ _, below_alloc w _⟩
theorem below_took {p q : Nat} {l : Int} {a w w' : World} (h : Below p a w) (ht : Took q l w w') (hq : p ≤ q) : Below p a w' := h.trans (ht.2.2.2.mono hq)
theorem below_on {p : Nat} {a w w' : World} (h : Below p a w) (hb : Below w.heap.size w w') (hp : p ≤ w.heap.size) : Below p a w' := h.trans (hb.mono hp)
set_option maxHeartbeats 1000000 in
theorem take_any (x l : Int) (q : Nat) (w : World) (h : w.heap[q]? = some (.cells #[.int .i64 l] 2 (0, 0))) (x0 : 0 ≤ x) (x1 : x ≤ 10000000000000) (l0 : 0 ≤ l) (l1 : l ≤ 10000000000000) :
  Calls Tryz.prog 160 #[.int .i64 x, .pointer (some ⟨q, 0, none⟩)] w fun e w' => e = .returned (.int .i64 (least x l)) ∧ Took q (l - least x l) w w' := by
 obtain ⟨c0, f0⟩ := box_cell h
 have HH := Lib.hid h
 have HQ : Hid (∀ v, Took q v w (w.setCell ⟨q, 0, none⟩ (.int .i64 v))) := fun v => by
  refine ⟨World.size_setCell _ _ _, one_setCell h, fun b hb => Below.heap_setCell _ _ _ _ hb, (Below.refl q w).setCell (p := ⟨q, 0, none⟩) (Nat.le_refl _) _⟩
 clear h
 by_cases hc : x ≤ l
 ·have e1 : least x l = x := by unfold least; split <;> omega
  rw [e1]
  clear e1
  go_enter Tryz.func160, Tryz.ntmps160
  go_wp2
  go_ret
  first | exact ⟨rfl, HQ.out _⟩ | (simp only [show min x l = x by omega]; exact ⟨rfl, HQ.out _⟩)
 ·have e1 : least x l = l := by unfold least; split <;> omega
  rw [e1]
  clear e1
  go_enter Tryz.func160, Tryz.ntmps160
  go_wp2
  go_ret
  first | exact ⟨rfl, HQ.out _⟩ | (simp only [show min x l = l by omega, Int.sub_self]; exact ⟨rfl, HQ.out _⟩)
def ints (l : List Int) : List Value := l.map (Value.int .i64)
theorem ints_at {w : World} {b : Nat} {l : List Int} (h : w.heap[b]? = some (.cells (ints l).toArray 2 (0, 0))) (k : Nat) (hk : k < l.length) : w.cell? ⟨b, k, none⟩ = some (.int .i64 (l.getD k 0)) := by
 rw [cell_of_row w b k _ _ (0, 0) h]
 simp [ints, hk]
theorem allG_list (l : List Int) : ∀ k, k ≤ l.length → Ce.allG (fun i => l.getD i 0) k = (l.take k).all Ce.good := by
 intro k
 induction k with
 | zero => intro _; simp [Ce.allG]
 | succ k ih =>
  intro hk
  have hk' : k < l.length := by omega
  rw [List.take_add_one, List.all_append, ← ih (by omega), Ce.allG]
  simp [hk']
set_option maxHeartbeats 400000 in
theorem amounts_row (a : Option Addr) (len cap : Nat) (f : Nat → Int) (w : World) (hm : len ≤ 9223372036854775807) (hc : ∀ i, i < len → ∃ b off, a = some ⟨b, off, none⟩ ∧ w.cell? ⟨b, off + i, none⟩ = some (.int .i64 (f i))) :
  Calls Tryz.prog 135 #[.slice a len cap] w fun e w' => e = .returned (.bool (Ce.allG f len)) ∧ w' = w := by
 go_enter Tryz.func135, Tryz.ntmps135
 go_wp2
 go_loop [7] (fun i => ∃ k : Nat, k ≤ len ∧ i = .int .i64 k ∧ Hid (Ce.allG f k = true)) (fun i => len - (intOf i).toNat)
 case atStart => exact ⟨0, Nat.zero_le _, rfl, rfl⟩
 case round =>
  obtain ⟨k, hk, rfl, hg⟩ := hrel
  by_cases hlt : k < len
  ·obtain ⟨b, off, rfl, hcell⟩ := hc k hlt
   cases gk : Ce.good (f k)
   ·go_wp2_with (go_at_call 79; refine (Ce.good_any _ _).mono ?_; rintro e w' ⟨rfl, rfl⟩)
    go_ret
    exact ⟨by rw [Ce.allG_not f len k hlt gk]; rfl, rfl⟩
   ·go_wp2_with (go_at_call 79; refine (Ce.good_any _ _).mono ?_; rintro e w' ⟨rfl, rfl⟩)
    go_round
    case rel => exact ⟨k + 1, by omega, by go_num, Ce.allG_more f k hg.out gk⟩
    case measure => simp [intOf]; omega
  ·have : k = len := by omega
   subst this
   go_wp2
   go_ret
   exact ⟨by rw [hg.out]; rfl, rfl⟩
theorem amounts_any (l : List Int) (b n c : Nat) (w : World) (h : w.heap[b]? = some (.cells (ints l).toArray 2 (0, 0))) (hn : n = l.length) (hl : l.length ≤ 100) :
  Calls Tryz.prog 135 #[.slice (some ⟨b, 0, none⟩) n c] w fun e w' => e = .returned (.bool (l.all Ce.good)) ∧ w' = w := by
 subst hn
 refine (amounts_row (some ⟨b, 0, none⟩) l.length c (fun i => l.getD i 0) w (by omega) fun i hi => ⟨b, 0, rfl, by rw [Nat.zero_add]; exact ints_at h i hi⟩).mono ?_
 rintro e w' ⟨rfl, rfl⟩
 refine ⟨?_, rfl⟩
 rw [allG_list l l.length (Nat.le_refl _), List.take_length]
end Go.Proofs.YtfoooldkmokjpaaGreatDoor.Sh
end
