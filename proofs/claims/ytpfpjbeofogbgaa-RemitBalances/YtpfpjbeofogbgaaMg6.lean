/-
  Texts put together (merge.py): BMem, LWeightM, BWgt.
-/
import Derived.Test.YtpfpjbeofogbgaaMg4
/-
  Entries of a book as they lie in memory; rows of entries of the call's own, and what append leaves of them.
-/
section
set_option linter.unusedSimpArgs false
set_option linter.unusedVariables false
set_option maxRecDepth 100000
namespace Go.Proofs.Ytpfpjbeofogbgaa.Bk
open Go.RowKit
open Cm (Ln Cl cl0 LnsAt ClCells lnv clv LnOk ClOk)
open Sh (Ot)

abbrev TE : TypeId := 48
/-- An entry with its two rows' values. -/
structure Ev where
  e : En
  m : Value
  o : Value
abbrev enc (x : En) (m mo : Value) : Array Value := #[.string (mk x.cl.id), .string (mk x.cl.mem), .string (mk x.cl.fam), .int .i64 x.cl.net, .int .i64 x.cl.does, .string (mk x.cl.ref), m, .int .i64 x.tb, .int .i64 x.st, mo]
abbrev env (x : En) (m mo : Value) : Value := .agg #[.string (mk x.cl.id), .string (mk x.cl.mem), .string (mk x.cl.fam), .int .i64 x.cl.net, .int .i64 x.cl.does, .string (mk x.cl.ref), m, .int .i64 x.tb, .int .i64 x.st, mo]
def ec (x : Ev) : List Value := [.string (mk x.e.cl.id), .string (mk x.e.cl.mem), .string (mk x.e.cl.fam), .int .i64 x.e.cl.net, .int .i64 x.e.cl.does, .string (mk x.e.cl.ref), x.m, .int .i64 x.e.tb, .int .i64 x.e.st, x.o]
def ecs : List Ev → List Value
  | [] => []
  | x :: r => .string (mk x.e.cl.id) :: .string (mk x.e.cl.mem) :: .string (mk x.e.cl.fam) :: .int .i64 x.e.cl.net :: .int .i64 x.e.cl.does :: .string (mk x.e.cl.ref) :: x.m :: .int .i64 x.e.tb :: .int .i64 x.e.st :: x.o :: ecs r
theorem ecs_cons (f : Ev) (r : List Ev) : ecs (f :: r) = ec f ++ ecs r := rfl
theorem ecs_app (a b : List Ev) : ecs (a ++ b) = ecs a ++ ecs b := by induction a <;> simp_all [ecs]
theorem ecs_len (a : List Ev) : (ecs a).length = a.length * 10 := by induction a <;> simp_all [ecs]; omega
theorem ecs_at : ∀ (a : List Ev) (j : Nat) (x : Ev), a[j]? = some x → ∀ i, i < 10 → (ecs a)[j * 10 + i]? = (ec x)[i]?
  | [], j, x, h, _, _ => by simp at h
  | y :: r, 0, x, h, i, hi => by
    simp at h; subst h
    match i, hi with
    | 0, _ => rfl
    | 1, _ => rfl
    | 2, _ => rfl
    | 3, _ => rfl
    | 4, _ => rfl
    | 5, _ => rfl
    | 6, _ => rfl
    | 7, _ => rfl
    | 8, _ => rfl
    | 9, _ => rfl
  | y :: r, j + 1, x, h, i, hi => by
    have := ecs_at r j x (by simpa using h) i hi
    rw [show (j + 1) * 10 + i = (j * 10 + i) + 10 by omega]
    simpa [ecs] using this
def Sl (x : Ev) : Prop := x.m.oneCell' = true ∧ x.o.oneCell' = true
theorem ecs_one : ∀ (a : List Ev), (∀ x ∈ a, Sl x) → ∀ u ∈ ecs a, u.oneCell' = true
  | [], _, u, h => by simp [ecs] at h
  | f :: r, hs, u, h => by
    have ih := ecs_one r fun x hx => hs x (List.mem_cons_of_mem _ hx)
    have hf := hs f (List.mem_cons_self ..)
    simp only [ecs, List.mem_cons] at h
    rcases h with rfl | rfl | rfl | rfl | rfl | rfl | rfl | rfl | rfl | rfl | h
    all_goals first | rfl | exact hf.1 | exact hf.2 | exact ih u h
theorem ecs_take (l : List Ev) (i : Nat) : ecs (l.take i) = (ecs l).take (i * 10) := by
  rcases Nat.lt_or_ge i l.length with h | h
  · have e : ecs l = ecs (l.take i) ++ ecs (l.drop i) := by rw [← ecs_app, List.take_append_drop]
    have hl : (ecs (l.take i)).length = i * 10 := by rw [ecs_len, List.length_take]; congr 1; omega
    rw [e, List.take_left' hl]
  · rw [List.take_of_length_le h, List.take_of_length_le (by rw [ecs_len]; exact Nat.mul_le_mul_right _ h)]
theorem ecs_drop (l : List Ev) (i : Nat) : ecs (l.drop i) = (ecs l).drop (i * 10) := by
  rcases Nat.lt_or_ge i l.length with h | h
  · have e : ecs l = ecs (l.take i) ++ ecs (l.drop i) := by rw [← ecs_app, List.take_append_drop]
    have hl : (ecs (l.take i)).length = i * 10 := by rw [ecs_len, List.length_take]; congr 1; omega
    rw [e, List.drop_left' hl]
  · rw [List.drop_eq_nil_of_le h, List.drop_eq_nil_of_le (by rw [ecs_len]; exact Nat.mul_le_mul_right _ h)]; rfl

/-! ### Rows that are read -/
def EnCells (w : World) (b o : Nat) (x : En) (m mo : Value) : Prop :=
  w.cell? ⟨b, o, none⟩ = some (.string (mk x.cl.id)) ∧ w.cell? ⟨b, o + 1, none⟩ = some (.string (mk x.cl.mem)) ∧ w.cell? ⟨b, o + 2, none⟩ = some (.string (mk x.cl.fam)) ∧ w.cell? ⟨b, o + 3, none⟩ = some (.int .i64 x.cl.net) ∧ w.cell? ⟨b, o + 4, none⟩ = some (.int .i64 x.cl.does) ∧ w.cell? ⟨b, o + 5, none⟩ = some (.string (mk x.cl.ref)) ∧ w.cell? ⟨b, o + 6, none⟩ = some m ∧ w.cell? ⟨b, o + 7, none⟩ = some (.int .i64 x.tb) ∧ w.cell? ⟨b, o + 8, none⟩ = some (.int .i64 x.st) ∧ w.cell? ⟨b, o + 9, none⟩ = some mo
theorem EnCells.of {w w' : World} {b o : Nat} {x : En} {m mo : Value} (h : EnCells w b o x m mo) (he : w'.heap[b]? = w.heap[b]?) : EnCells w' b o x m mo := by
  obtain ⟨h0, h1, h2, h3, h4, h5, h6, h7, h8, h9⟩ := h
  refine ⟨?_, ?_, ?_, ?_, ?_, ?_, ?_, ?_, ?_, ?_⟩ <;> rw [World.cell?_of_block (w := w) he] <;> assumption
def Cont (K : Nat → Prop) (w : World) (x : Ev) : Prop := LnsAt K w x.m x.e.cl.lines ∧ OtsAt K w x.o x.e.outs
theorem Cont.move {K K' : Nat → Prop} {w w' : World} {x : Ev} (h : Cont K w x) (hm : Moves K K' w w') : Cont K' w' x := ⟨LnsAt.move h.1 hm, h.2.move hm⟩
theorem Cont.all {K : Nat → Prop} {w : World} {x : Ev} (h : Cont K w x) : Cont All w x := h.move (moves_weak w fun _ _ _ => trivial)
theorem Cont.grw {w w' : World} {x : Ev} (h : Cont All w x) (hb : Below w.heap.size w w') : Cont All w' x := h.move (Below.moves hb)
theorem Cont.sl {K : Nat → Prop} {w : World} {x : Ev} (h : Cont K w x) : Sl x := by
  obtain ⟨a, c, e1, -, -⟩ := Cm.LnsAt.form h.1
  obtain ⟨b, d, e2, -, -⟩ := h.2.form
  exact ⟨by rw [e1]; rfl, by rw [e2]; rfl⟩
def EnsAt (K : Nat → Prop) (w : World) (v : Value) (l : List En) : Prop :=
  ∃ a c, v = .slice a l.length c ∧ l.length ≤ c ∧ c ≤ maxLen ∧ (l = [] ∨ ∃ b o, a = some ⟨b, o, none⟩ ∧ K b ∧ b < w.heap.size ∧ ∀ (j : Nat) x, l[j]? = some x → ∃ m mo, EnCells w b (o + j * 10) x m mo ∧ Cont K w ⟨x, m, mo⟩)
theorem EnsAt.move {K K' : Nat → Prop} {w w' : World} {v : Value} {l : List En} (h : EnsAt K w v l) (hm : Moves K K' w w') : EnsAt K' w' v l := by
  obtain ⟨a, c, rfl, h1, h2, h3⟩ := h
  refine ⟨a, c, rfl, h1, h2, h3.imp id ?_⟩
  rintro ⟨b, o, rfl, hk, hb, hc⟩
  obtain ⟨k', hh⟩ := hm.2 b hb hk
  refine ⟨b, o, rfl, k', Nat.lt_of_lt_of_le hb hm.1, fun j x hj => ?_⟩
  obtain ⟨m, mo, q1, q2⟩ := hc j x hj
  exact ⟨m, mo, q1.of hh, q2.move hm⟩
theorem EnsAt.grw {w w' : World} {v : Value} {l : List En} (h : EnsAt All w v l) (hb : Below w.heap.size w w') : EnsAt All w' v l := h.move (Below.moves hb)
theorem EnsAt.all {K : Nat → Prop} {w : World} {v : Value} {l : List En} (h : EnsAt K w v l) : EnsAt All w v l := h.move (moves_weak w fun _ _ _ => trivial)
theorem EnsAt.nil (K : Nat → Prop) (w : World) : EnsAt K w (.slice none 0 0) [] := ⟨none, 0, rfl, by simp, by simp [maxLen], Or.inl rfl⟩
theorem EnsAt.form {K : Nat → Prop} {w : World} {v : Value} {xs : List En} (h : EnsAt K w v xs) : ∃ a c, v = .slice a xs.length c ∧ xs.length ≤ c ∧ c ≤ 9223372036854775807 := by
  obtain ⟨a, c, rfl, h1, h2, _⟩ := h
  exact ⟨a, c, rfl, h1, by unfold maxLen at h2; exact h2⟩
theorem EnsAt.get {K : Nat → Prop} {w : World} {a : Option Addr} {n c : Nat} {ls : List En} (h : EnsAt K w (.slice a n c) ls) (k : Nat) (hk : k < ls.length) :
    ∃ b o m mo, a = some ⟨b, o, none⟩ ∧ b < w.heap.size ∧ ls[k]? = some ls[k] ∧ EnCells w b (o + k * 10) ls[k] m mo ∧ Cont K w ⟨ls[k], m, mo⟩ := by
  obtain ⟨a', c', he, h1, h2, h3⟩ := h
  have ha : a = a' := by injection he
  subst ha
  rcases h3 with h | ⟨b, o, ha, _, hb, hc⟩
  · subst h; simp at hk
  · have hx := List.getElem?_eq_getElem hk
    obtain ⟨m, mo, q1, q2⟩ := hc k _ hx
    exact ⟨b, o, m, mo, ha, hb, hx, q1, q2⟩

/-! ### Rows of the call's own -/
def OwnE (B : Nat) (w : World) (v : Value) (L : List Ev) : Prop := w.ownsRow B TE 10 v L.length (ecs L)
/-- Blocks from B on, but the row's own. -/
abbrev Of (B : Nat) (v : Value) (b : Nat) : Prop := v.ownBlock ≠ some b ∧ B ≤ b
/-- Its own row, and what its entries hold, which lies elsewhere, from B on. -/
def Full (B : Nat) (w : World) (v : Value) (L : List Ev) : Prop := OwnE B w v L ∧ ∀ x ∈ L, Cont (Of B v) w x
theorem Full.at {B : Nat} {w : World} {v : Value} {L : List Ev} (h : Full B w v L) : EnsAt All w v (L.map (·.e)) := by
  obtain ⟨⟨hl, h⟩, hc⟩ := h
  rcases h with ⟨rfl, h0⟩ | ⟨g, cap, cur, rfl, hbg, hg, h1, h2, hs, ht⟩
  · obtain rfl := List.length_eq_zero_iff.1 h0
    exact EnsAt.nil _ _
  · refine ⟨some ⟨g, 0, none⟩, cap, by rw [List.length_map], by rw [List.length_map]; exact h1, h2, Or.inr ⟨g, 0, rfl, trivial, (Array.getElem?_eq_some_iff.1 hg).1, fun j x hj => ?_⟩⟩
    rw [List.getElem?_map] at hj
    obtain ⟨y, hy, rfl⟩ := Option.map_eq_some_iff.1 hj
    have hjl : j < L.length := (List.getElem?_eq_some_iff.1 hy).1
    have e : ∀ i, i < 10 → w.cell? ⟨g, 0 + j * 10 + i, none⟩ = (ec y)[i]? := fun i hi => by
      have q := ecs_at L j y hy i hi
      rw [← ht, List.getElem?_take, if_pos (by omega)] at q
      rw [cell_of_row w g _ cur _ (0, 0) hg, Nat.zero_add]
      simpa using q
    refine ⟨y.m, y.o, ⟨e 0 (by omega), e 1 (by omega), e 2 (by omega), e 3 (by omega), e 4 (by omega), e 5 (by omega), e 6 (by omega), e 7 (by omega), e 8 (by omega), e 9 (by omega)⟩, ?_⟩
    exact (hc y (List.mem_of_getElem? hy)).all
theorem infoE : ∃ i, Try.prog.info? TE = some i ∧ i.zero = some (.agg #[.string ByteArray.empty, .string ByteArray.empty, .string ByteArray.empty, .int .i64 0, .int .i64 0, .string ByteArray.empty, .slice none 0 0, .int .i64 0, .int .i64 0, .slice none 0 0]) ∧ i.size = 10 ∧ i.bytes = 144 := by
  have hi : (Try.prog.info? TE).map (fun i => (i.zero, i.size, i.bytes)) = some (some (.agg #[.string ByteArray.empty, .string ByteArray.empty, .string ByteArray.empty, .int .i64 0, .int .i64 0, .string ByteArray.empty, .slice none 0 0, .int .i64 0, .int .i64 0, .slice none 0 0]), 10, 144) := by kernel_rfl
  cases hq : Try.prog.info? TE with
  | none => rw [hq] at hi; cases hi
  | some i =>
    rw [hq] at hi
    simp only [Option.map_some, Option.some.injEq, Prod.mk.injEq] at hi
    exact ⟨i, rfl, hi⟩
theorem ec_src {w : World} {vb : Nat} {f : Ev} (hx : w.heap[vb]? = some (.cells (enc f.e f.m f.o) TE (0, 0))) (j : Nat) (u : Value) (hj : (ec f)[j]? = some u) : w.cell? ((⟨vb, 0, none⟩ : Addr).add j) = some u := by
  rw [add_lit, Nat.zero_add, cell_of_row w vb j _ _ (0, 0) hx]
  match j, hj with
  | 0, hj => exact hj
  | 1, hj => exact hj
  | 2, hj => exact hj
  | 3, hj => exact hj
  | 4, hj => exact hj
  | 5, hj => exact hj
  | 6, hj => exact hj
  | 7, hj => exact hj
  | 8, hj => exact hj
  | 9, hj => exact hj
  | n + 10, hj => simp [ec] at hj
theorem ec_one (x : Ev) (h : Sl x) : ∀ u ∈ ec x, u.oneCell' = true := fun u hu => ecs_one [x] (by simpa using h) u (by simpa [ecs, ec] using hu)
/-- append(v, x) over entries. -/
theorem wp_app {o : Oper} {a : Act} {w : World} {K : Act → World → Prop} {Q : Exit → Act → World → Prop} (s x : Operand) (ho : o.op = .call { callee := .builtin .append, args := #[s, x], argTypes := #[23, 23] })
    (B : Nat) (v : Value) (L : List Ev) (hs : a.eval s = v) (hown : OwnE B w v L) (b c : Nat) (f : Ev) (hx : a.eval x = .slice (some ⟨b, 0, none⟩) 1 c)
    (hc : w.heap[b]? = some (.cells (enc f.e f.m f.o) TE (0, 0))) (hf : Sl f) (hbd : L.length ≤ 1000000) (hB : B ≤ w.heap.size)
    (h : ∀ v' w', OwnE B w' v' (L ++ [f]) → w.grownBy w' v.ownBlock → (v'.ownBlock = v.ownBlock ∨ v'.ownBlock = some w.heap.size) → K (a.put o.dst v') w') : o.wp Try.prog a w K Q := by
  obtain ⟨i, q1, q2, q3, q4⟩ := infoE
  refine wp_append_lies w s x 23 ho B TE i _ 10 144 Try.underlying23 q1 q2 q3 q4 rfl (by omega) v L.length (ecs L) hs hown ⟨b, 0, none⟩ 1 c (ec f) hx rfl (ec_src hc) (ec_one f hf) (by omega) (by unfold maxLen; omega) (by omega) hB w.heap.size rfl fun g cap w' hown' hg hat _ => ?_
  refine h _ w' (by unfold OwnE; rw [ecs_app, List.length_append]; exact hown') hg ?_
  rcases hat with e | e
  · exact Or.inl (by rw [e]; rfl)
  · exact Or.inr (by rw [e]; rfl)
theorem Full.form {w : World} {B : Nat} {v : Value} {l : List Ev} (h : Full B w v l) : ∃ a c, v = .slice a l.length c ∧ l.length ≤ c ∧ c ≤ 9223372036854775807 := by
  have := h.at.form
  rwa [List.length_map] at this
theorem Full.grw {w w' : World} {B : Nat} {v : Value} {l : List Ev} (h : Full B w v l) (hb : Below w.heap.size w w') : Full B w' v l := by
  refine ⟨⟨h.1.1, h.1.2.imp id ?_⟩, fun x hx => (h.2 x hx).move ⟨hb.size, fun b hb' hk => ⟨hk, hb.block b hb'⟩⟩⟩
  rintro ⟨g, c, cur, rfl, h0, hh, hr⟩
  exact ⟨g, c, cur, rfl, h0, keepB hh hb, hr⟩
theorem Full.nil (B : Nat) (w : World) : Full B w (.slice none 0 0) [] := ⟨⟨rfl, Or.inl ⟨rfl, rfl⟩⟩, by simp⟩
/-- One more, whose rows lie elsewhere. -/
theorem Full.app {B : Nat} {w w' : World} {v v' : Value} {L : List Ev} {f : Ev} (h : Full B w v L) (hf : Cont (Of B v) w f) (ho : OwnE B w' v' (L ++ [f])) (hg : w.grownBy w' v.ownBlock) (hv : v'.ownBlock = v.ownBlock ∨ v'.ownBlock = some w.heap.size) : Full B w' v' (L ++ [f]) := by
  refine ⟨ho, fun x hx => ?_⟩
  have hm : Moves (Of B v) (Of B v') w w' := by
    refine ⟨hg.size, fun b hb hk => ⟨⟨?_, hk.2⟩, hg.block b hb (fun e => hk.1 e.symm)⟩⟩
    rcases hv with e | e
    · rw [e]; exact hk.1
    · rw [e]; intro q; injection q with q; omega
  rcases List.mem_append.1 hx with hx | hx
  · exact (h.2 x hx).move hm
  · simp at hx; subst hx; exact hf.move hm
/-- What lies below the row's base stands where it grows. -/
theorem grow_low {w w' : World} {B : Nat} {v : Value} {l : List Ev} (ho : OwnE B w v l) (hg : w.grownBy w' v.ownBlock) (hB : B ≤ w.heap.size) : Below B w w' :=
  ⟨hg.os, hg.tape, hg.output, hg.size, fun k hk => hg.block k (by omega) (fun e => by have := (ho.lt k e.symm).1; omega)⟩
theorem ten {w : World} {q : Nat} {a0 a1 a2 a3 a4 a5 a6 a7 a8 a9 : Value} {T : TypeId} (h : w.heap[q]? = some (.cells #[a0, a1, a2, a3, a4, a5, a6, a7, a8, a9] T (0, 0))) : w.cell? ⟨q, 0, none⟩ = some a0 ∧ w.cell? ⟨q, 1, none⟩ = some a1 ∧ w.cell? ⟨q, 2, none⟩ = some a2 ∧ w.cell? ⟨q, 3, none⟩ = some a3 ∧ w.cell? ⟨q, 4, none⟩ = some a4 ∧ w.cell? ⟨q, 5, none⟩ = some a5 ∧ w.cell? ⟨q, 6, none⟩ = some a6 ∧ w.cell? ⟨q, 7, none⟩ = some a7 ∧ w.cell? ⟨q, 8, none⟩ = some a8 ∧ w.cell? ⟨q, 9, none⟩ = some a9 := by
  refine ⟨?_, ?_, ?_, ?_, ?_, ?_, ?_, ?_, ?_, ?_⟩ <;> rw [cell_of_row w q _ _ T (0, 0) h] <;> rfl
end Go.Proofs.Ytpfpjbeofogbgaa.Bk
end

/-
  What the reference's Weight answers at whatever limit (LWeight has it at 3000, with the laws' light), as a contract: where it is true, there is not too much of anything.
-/
section
set_option linter.unusedSimpArgs false
set_option maxRecDepth 100000
namespace Go.Proofs.Ytpfpjbeofogbgaa.Cm
open Go.RowKit

/-- Not too much: of services, of their modifiers, of these ones' signs. -/
def LnLight (x : Ln) : Prop := x.mods.length ≤ 20000 ∧ ∀ t ∈ x.mods, t.length ≤ 20000
def ClLight (c : Cl) : Prop := c.lines.length ≤ 3000 ∧ ∀ x ∈ c.lines, LnLight x
theorem tx_snoc (l : List Tx) (k : Nat) (t : Tx) (hx : l[k]? = some t) (h : ∀ t ∈ l.take k, t.length ≤ 20000) (ht : t.length ≤ 20000) : ∀ t ∈ l.take (k + 1), t.length ≤ 20000 := by
  intro s hs
  rw [List.take_add_one, hx] at hs
  rcases List.mem_append.1 hs with h1 | h1
  · exact h s h1
  · simp at h1; rw [h1]; exact ht
theorem ln_snoc (l : List Ln) (k : Nat) (t : Ln) (hx : l[k]? = some t) (h : ∀ t ∈ l.take k, LnLight t) (ht : LnLight t) : ∀ t ∈ l.take (k + 1), LnLight t := by
  intro s hs
  rw [List.take_add_one, hx] at hs
  rcases List.mem_append.1 hs with h1 | h1
  · exact h s h1
  · simp at h1; rw [h1]; exact ht
theorem cl_snoc (l : List Cl) (k : Nat) (t : Cl) (hx : l[k]? = some t) (h : ∀ t ∈ l.take k, ClLight t) (ht : ClLight t) : ∀ t ∈ l.take (k + 1), ClLight t := by
  intro s hs
  rw [List.take_add_one, hx] at hs
  rcases List.mem_append.1 hs with h1 | h1
  · exact h s h1
  · simp at h1; rw [h1]; exact ht

set_option maxHeartbeats 4000000 in
theorem weight_any (M : Int) (hM0 : 0 ≤ M) (hM : M ≤ 3000) (v : Value) (l : List Cl) (w : World) (h : ClsAt All w v l) (hz : ∀ c ∈ l, ClOk c) :
    Calls Try.prog 33 #[v, .int .i64 M] w fun e w' => (∃ n : Int, e = .returned (.int .i64 n) ∧ (n ≤ M → ∀ c ∈ l, ClLight c)) ∧ Below w.heap.size w w' := by
  have HV := Lib.hid h
  have HZ := Lib.hid hz
  obtain ⟨a, cap, rfl, h1, h2⟩ := ClsAt.form h
  clear h hz
  go_enter Try.func33, Try.ntmps33
  go_wp2
  go_loopg [5, 6] (l.length) (fun gg n i wr => ∃ (k : Nat) (m : Int) (q : Nat), k ≤ l.length ∧ gg = l.length - k ∧ i = .int .i64 k ∧ n = .int .i64 m ∧ 0 ≤ m ∧ m ≤ 4611686018427387904 ∧ wr = w.drewN q ∧ Hid (m ≤ M → ∀ c ∈ l.take k, ClLight c))
  case atStart => exact ⟨0, 0, 0, Nat.zero_le _, rfl, rfl, rfl, by omega, by omega, rfl, fun _ c hc => by simp at hc⟩
  case round =>
    obtain ⟨k, m, q, hk, hg, rfl, rfl, hm0, hm1, rfl, HA⟩ := hrel
    by_cases hm3 : m ≤ M
    case neg =>
      clear HA
      by_cases hlt : k < l.length
      · have d1 : decide (m ≤ M) = false := decide_eq_false hm3
        go_wp2
        go_ret
        exact ⟨⟨m, rfl, fun h => absurd h (by omega)⟩, below_drewq ⟨_, rfl⟩⟩
      · have hlt' : ¬ (k : Int) < (l.length : Int) := by omega
        go_wp2
        go_ret
        exact ⟨⟨m, rfl, fun h => absurd h (by omega)⟩, below_drewq ⟨_, rfl⟩⟩
    by_cases hlt : k < l.length
    case neg =>
      have hall : l.take k = l := List.take_of_length_le (by omega)
      rw [hall] at HA
      clear hall
      have hlt' : ¬ (k : Int) < (l.length : Int) := by omega
      go_wp2
      go_ret
      exact ⟨⟨m, rfl, HA.out⟩, below_drewq ⟨_, rfl⟩⟩
    obtain ⟨b, o, mv, rfl, hx, hc, hr⟩ := ClsAt.get HV.out k hlt
    obtain ⟨z1, z2, z3, z4, z5, z6, z7, z8⟩ := HZ.out _ (List.mem_of_getElem? hx)
    have HZL := Lib.hid z8
    have HRL := Lib.hid hr
    obtain ⟨ar, cr, rfl, g1, g2⟩ := LnsAt.form hr
    have HS := Lib.hid (cl_snoc l k _ hx (HA.out hm3))
    have HCL : Hid (ClLight l[k] = (l[k].lines.length ≤ 3000 ∧ ∀ x ∈ l[k].lines, LnLight x)) := rfl
    obtain ⟨c0, c1, c2, c3, c4, c5, c6⟩ := hc
    have s0 := mk_size l[k].id
    have s1 := mk_size l[k].mem
    have s2 := mk_size l[k].fam
    have s5 := mk_size l[k].ref
    rw [← s0] at z3
    rw [← s1] at z4
    rw [← s2] at z5
    rw [← s5] at z6
    clear hx hr z1 z2 z8 s0 s1 s2 s5 HA
    have d1 : decide (m ≤ M) = true := decide_eq_true hm3
    go_wp2_with fail
    go_quiet (fail)
    go_wp2
    go_loopg [5, 7] (l[k].lines.length) (fun gg n i wr => ∃ (j : Nat) (m2 : Int) (q2 : Nat), j ≤ l[k].lines.length ∧ gg = l[k].lines.length - j ∧ i = .int .i64 j ∧ n = .int .i64 m2 ∧ 0 ≤ m2 ∧ m2 ≤ 4611686018427387904 ∧ wr = w.drewN q2 ∧ Hid (m2 ≤ M → l[k].lines.length ≤ 3000 ∧ ∀ x ∈ l[k].lines.take j, LnLight x))
    case atStart => exact ⟨0, _, q + nq, Nat.zero_le _, rfl, rfl, rfl, by omega, by omega, by first | rfl | rw [World.drewN_drewN], fun _ => ⟨by omega, fun c hc => by simp at hc⟩⟩
    case round =>
      obtain ⟨j, m2, q2, hj, hgj, rfl, rfl, hm20, hm21, rfl, HA2⟩ := hrel
      by_cases hm23 : m2 ≤ M
      case neg =>
        clear HA2
        by_cases hltj : j < l[k].lines.length
        · have d2 : decide (m2 ≤ M) = false := decide_eq_false hm23
          go_wp2
          go_roundg (l.length - (k + 1))
          case rel => exact ⟨k + 1, m2, q2, by omega, rfl, by go_num, rfl, hm20, hm21, rfl, fun h => absurd h (by omega)⟩
          case measure => omega
        · have hltj' : ¬ (j : Int) < (l[k].lines.length : Int) := by omega
          go_wp2
          go_roundg (l.length - (k + 1))
          case rel => exact ⟨k + 1, m2, q2, by omega, rfl, by go_num, rfl, hm20, hm21, rfl, fun h => absurd h (by omega)⟩
          case measure => omega
      by_cases hltj : j < l[k].lines.length
      case neg =>
        have hall : l[k].lines.take j = l[k].lines := List.take_of_length_le (by omega)
        have HF : Hid (∀ c ∈ l.take (k + 1), ClLight c) := HS.out (by rw [HCL.out]; rw [hall] at HA2; exact HA2.out hm23)
        clear hall
        have hltj' : ¬ (j : Int) < (l[k].lines.length : Int) := by omega
        go_wp2
        go_roundg (l.length - (k + 1))
        case rel => exact ⟨k + 1, m2, q2, by omega, rfl, by go_num, rfl, hm20, hm21, rfl, fun _ => HF.out⟩
        case measure => omega
      obtain ⟨br, or, mm, rfl, hxj, hcj, hrj⟩ := LnsAt.get HRL.out j hltj
      obtain ⟨y1, y2, y3, y4, y5, y6, y7⟩ := HZL.out _ (List.mem_of_getElem? hxj)
      have HZT := Lib.hid y7
      have HTX := Lib.hid hrj
      obtain ⟨at_, ct, rfl, p1, p2⟩ := TxAt.form hrj
      obtain ⟨hll, hlq⟩ := HA2.out hm23
      have HS2 := Lib.hid (ln_snoc l[k].lines j _ hxj hlq)
      have HLL : Hid (LnLight l[k].lines[j] = (l[k].lines[j].mods.length ≤ 20000 ∧ ∀ t ∈ l[k].lines[j].mods, t.length ≤ 20000)) := rfl
      obtain ⟨e0, e1, e2, e3, e4, e5⟩ := hcj
      have t0 := mk_size l[k].lines[j].proc
      rw [← t0] at y5
      clear hxj hrj y1 y2 y3 y4 y7 t0 HA2 hlq
      have d2 : decide (m2 ≤ M) = true := decide_eq_true hm23
      go_wp2_with fail
      go_quiet (fail)
      go_wp2
      go_loopg [5, 8] (l[k].lines[j].mods.length) (fun gg n i wr => ∃ (i3 : Nat) (m3 : Int) (q3 : Nat), i3 ≤ l[k].lines[j].mods.length ∧ gg = l[k].lines[j].mods.length - i3 ∧ i = .int .i64 i3 ∧ n = .int .i64 m3 ∧ 0 ≤ m3 ∧ m3 ≤ 4611686018427387904 ∧ wr = w.drewN q3 ∧ Hid (m3 ≤ M → l[k].lines[j].mods.length ≤ 20000 ∧ ∀ t ∈ l[k].lines[j].mods.take i3, t.length ≤ 20000))
      case atStart => exact ⟨0, _, q2 + nq, Nat.zero_le _, rfl, rfl, rfl, by omega, by omega, by first | rfl | rw [World.drewN_drewN], fun _ => ⟨by omega, fun c hc => by simp at hc⟩⟩
      case round =>
        obtain ⟨i3, m3, q3, hi, hgi, rfl, rfl, hm30, hm31, rfl, HA3⟩ := hrel
        by_cases hm33 : m3 ≤ M
        case neg =>
          clear HA3
          by_cases hlti : i3 < l[k].lines[j].mods.length
          · have d3 : decide (m3 ≤ M) = false := decide_eq_false hm33
            go_wp2
            go_roundg (l[k].lines.length - (j + 1))
            case rel => exact ⟨j + 1, m3, q3, by omega, rfl, by go_num, rfl, hm30, hm31, rfl, fun h => absurd h (by omega)⟩
            case measure => omega
          · have hlti' : ¬ (i3 : Int) < (l[k].lines[j].mods.length : Int) := by omega
            go_wp2
            go_roundg (l[k].lines.length - (j + 1))
            case rel => exact ⟨j + 1, m3, q3, by omega, rfl, by go_num, rfl, hm30, hm31, rfl, fun h => absurd h (by omega)⟩
            case measure => omega
        by_cases hlti : i3 < l[k].lines[j].mods.length
        case neg =>
          have hall : l[k].lines[j].mods.take i3 = l[k].lines[j].mods := List.take_of_length_le (by omega)
          have HF : Hid (∀ x ∈ l[k].lines.take (j + 1), LnLight x) := HS2.out (by rw [HLL.out]; rw [hall] at HA3; exact HA3.out hm33)
          clear hall
          have hlti' : ¬ (i3 : Int) < (l[k].lines[j].mods.length : Int) := by omega
          go_wp2
          go_roundg (l[k].lines.length - (j + 1))
          case rel => exact ⟨j + 1, m3, q3, by omega, rfl, by go_num, rfl, hm30, hm31, rfl, fun _ => ⟨hll, HF.out⟩⟩
          case measure => omega
        obtain ⟨bt, ot, rfl, hxt, hct⟩ := tx_get HTX.out i3 hlti
        have ht := HZT.out _ (List.mem_of_getElem? hxt)
        have t1 := mk_size l[k].lines[j].mods[i3]
        rw [← t1] at ht
        obtain ⟨u1, u2⟩ := HA3.out hm33
        have HS3 := Lib.hid (tx_snoc l[k].lines[j].mods i3 _ hxt u2)
        have HT1 := Lib.hid t1
        clear hxt t1 HA3 u2
        have d3 : decide (m3 ≤ M) = true := decide_eq_true hm33
        go_wp2
        go_roundg (l[k].lines[j].mods.length - (i3 + 1))
        case rel => exact ⟨i3 + 1, _, q3, by omega, rfl, by go_num, rfl, by omega, by omega, rfl, fun _ => ⟨u1, HS3.out (by have := HT1.out; omega)⟩⟩
        case measure => omega

end Go.Proofs.Ytpfpjbeofogbgaa.Cm
end

/-
  What the reference's Weight of claims answers, as a contract: as in LWeightM, and within which bounds its number lies.
-/
section
set_option linter.unusedSimpArgs false
set_option maxRecDepth 100000
namespace Go.Proofs.Ytpfpjbeofogbgaa.Cm
open Go.RowKit

set_option maxHeartbeats 4000000 in
theorem weight2_any (M : Int) (hM0 : 0 ≤ M) (hM : M ≤ 3000) (v : Value) (l : List Cl) (w : World) (h : ClsAt All w v l) (hz : ∀ c ∈ l, ClOk c) :
    Calls Try.prog 33 #[v, .int .i64 M] w fun e w' => (∃ n : Int, e = .returned (.int .i64 n) ∧ (n ≤ M → ∀ c ∈ l, ClLight c) ∧ 0 ≤ n ∧ n ≤ 4611686018427387904 ∧ (n ≤ M → (l.length : Int) ≤ n)) ∧ Below w.heap.size w w' := by
  have HV := Lib.hid h
  have HZ := Lib.hid hz
  obtain ⟨a, cap, rfl, h1, h2⟩ := ClsAt.form h
  clear h hz
  go_enter Try.func33, Try.ntmps33
  go_wp2
  go_loopg [5, 6] (l.length) (fun gg n i wr => ∃ (k : Nat) (m : Int) (q : Nat), k ≤ l.length ∧ gg = l.length - k ∧ i = .int .i64 k ∧ n = .int .i64 m ∧ (k : Int) ≤ m ∧ m ≤ 4611686018427387904 ∧ wr = w.drewN q ∧ Hid (m ≤ M → ∀ c ∈ l.take k, ClLight c))
  case atStart => exact ⟨0, 0, 0, Nat.zero_le _, rfl, rfl, rfl, by omega, by omega, rfl, fun _ c hc => by simp at hc⟩
  case round =>
    obtain ⟨k, m, q, hk, hg, rfl, rfl, hm0, hm1, rfl, HA⟩ := hrel
    by_cases hm3 : m ≤ M
    case neg =>
      clear HA
      by_cases hlt : k < l.length
      · have d1 : decide (m ≤ M) = false := decide_eq_false hm3
        go_wp2
        go_ret
        exact ⟨⟨m, rfl, fun h => absurd h (by omega), by omega, by omega, fun h => by omega⟩, below_drewq ⟨_, rfl⟩⟩
      · have hlt' : ¬ (k : Int) < (l.length : Int) := by omega
        go_wp2
        go_ret
        exact ⟨⟨m, rfl, fun h => absurd h (by omega), by omega, by omega, fun h => by omega⟩, below_drewq ⟨_, rfl⟩⟩
    by_cases hlt : k < l.length
    case neg =>
      have hall : l.take k = l := List.take_of_length_le (by omega)
      rw [hall] at HA
      clear hall
      have hlt' : ¬ (k : Int) < (l.length : Int) := by omega
      go_wp2
      go_ret
      exact ⟨⟨m, rfl, HA.out, by omega, by omega, fun h => by omega⟩, below_drewq ⟨_, rfl⟩⟩
    obtain ⟨b, o, mv, rfl, hx, hc, hr⟩ := ClsAt.get HV.out k hlt
    obtain ⟨z1, z2, z3, z4, z5, z6, z7, z8⟩ := HZ.out _ (List.mem_of_getElem? hx)
    have HZL := Lib.hid z8
    have HRL := Lib.hid hr
    obtain ⟨ar, cr, rfl, g1, g2⟩ := LnsAt.form hr
    have HS := Lib.hid (cl_snoc l k _ hx (HA.out hm3))
    have HCL : Hid (ClLight l[k] = (l[k].lines.length ≤ 3000 ∧ ∀ x ∈ l[k].lines, LnLight x)) := rfl
    obtain ⟨c0, c1, c2, c3, c4, c5, c6⟩ := hc
    have s0 := mk_size l[k].id
    have s1 := mk_size l[k].mem
    have s2 := mk_size l[k].fam
    have s5 := mk_size l[k].ref
    rw [← s0] at z3
    rw [← s1] at z4
    rw [← s2] at z5
    rw [← s5] at z6
    clear hx hr z1 z2 z8 s0 s1 s2 s5 HA
    have d1 : decide (m ≤ M) = true := decide_eq_true hm3
    go_wp2_with fail
    go_quiet (fail)
    go_wp2
    go_loopg [5, 7] (l[k].lines.length) (fun gg n i wr => ∃ (j : Nat) (m2 : Int) (q2 : Nat), j ≤ l[k].lines.length ∧ gg = l[k].lines.length - j ∧ i = .int .i64 j ∧ n = .int .i64 m2 ∧ ((k + 1 : Nat) : Int) ≤ m2 ∧ m2 ≤ 4611686018427387904 ∧ wr = w.drewN q2 ∧ Hid (m2 ≤ M → l[k].lines.length ≤ 3000 ∧ ∀ x ∈ l[k].lines.take j, LnLight x))
    case atStart => exact ⟨0, _, q + nq, Nat.zero_le _, rfl, rfl, rfl, by omega, by omega, by first | rfl | rw [World.drewN_drewN], fun _ => ⟨by omega, fun c hc => by simp at hc⟩⟩
    case round =>
      obtain ⟨j, m2, q2, hj, hgj, rfl, rfl, hm20, hm21, rfl, HA2⟩ := hrel
      by_cases hm23 : m2 ≤ M
      case neg =>
        clear HA2
        by_cases hltj : j < l[k].lines.length
        · have d2 : decide (m2 ≤ M) = false := decide_eq_false hm23
          go_wp2
          go_roundg (l.length - (k + 1))
          case rel => exact ⟨k + 1, m2, q2, by omega, rfl, by go_num, rfl, hm20, hm21, rfl, fun h => absurd h (by omega)⟩
          case measure => omega
        · have hltj' : ¬ (j : Int) < (l[k].lines.length : Int) := by omega
          go_wp2
          go_roundg (l.length - (k + 1))
          case rel => exact ⟨k + 1, m2, q2, by omega, rfl, by go_num, rfl, hm20, hm21, rfl, fun h => absurd h (by omega)⟩
          case measure => omega
      by_cases hltj : j < l[k].lines.length
      case neg =>
        have hall : l[k].lines.take j = l[k].lines := List.take_of_length_le (by omega)
        have HF : Hid (∀ c ∈ l.take (k + 1), ClLight c) := HS.out (by rw [HCL.out]; rw [hall] at HA2; exact HA2.out hm23)
        clear hall
        have hltj' : ¬ (j : Int) < (l[k].lines.length : Int) := by omega
        go_wp2
        go_roundg (l.length - (k + 1))
        case rel => exact ⟨k + 1, m2, q2, by omega, rfl, by go_num, rfl, hm20, hm21, rfl, fun _ => HF.out⟩
        case measure => omega
      obtain ⟨br, or, mm, rfl, hxj, hcj, hrj⟩ := LnsAt.get HRL.out j hltj
      obtain ⟨y1, y2, y3, y4, y5, y6, y7⟩ := HZL.out _ (List.mem_of_getElem? hxj)
      have HZT := Lib.hid y7
      have HTX := Lib.hid hrj
      obtain ⟨at_, ct, rfl, p1, p2⟩ := TxAt.form hrj
      obtain ⟨hll, hlq⟩ := HA2.out hm23
      have HS2 := Lib.hid (ln_snoc l[k].lines j _ hxj hlq)
      have HLL : Hid (LnLight l[k].lines[j] = (l[k].lines[j].mods.length ≤ 20000 ∧ ∀ t ∈ l[k].lines[j].mods, t.length ≤ 20000)) := rfl
      obtain ⟨e0, e1, e2, e3, e4, e5⟩ := hcj
      have t0 := mk_size l[k].lines[j].proc
      rw [← t0] at y5
      clear hxj hrj y1 y2 y3 y4 y7 t0 HA2 hlq
      have d2 : decide (m2 ≤ M) = true := decide_eq_true hm23
      go_wp2_with fail
      go_quiet (fail)
      go_wp2
      go_loopg [5, 8] (l[k].lines[j].mods.length) (fun gg n i wr => ∃ (i3 : Nat) (m3 : Int) (q3 : Nat), i3 ≤ l[k].lines[j].mods.length ∧ gg = l[k].lines[j].mods.length - i3 ∧ i = .int .i64 i3 ∧ n = .int .i64 m3 ∧ ((k + 1 : Nat) : Int) ≤ m3 ∧ m3 ≤ 4611686018427387904 ∧ wr = w.drewN q3 ∧ Hid (m3 ≤ M → l[k].lines[j].mods.length ≤ 20000 ∧ ∀ t ∈ l[k].lines[j].mods.take i3, t.length ≤ 20000))
      case atStart => exact ⟨0, _, q2 + nq, Nat.zero_le _, rfl, rfl, rfl, by omega, by omega, by first | rfl | rw [World.drewN_drewN], fun _ => ⟨by omega, fun c hc => by simp at hc⟩⟩
      case round =>
        obtain ⟨i3, m3, q3, hi, hgi, rfl, rfl, hm30, hm31, rfl, HA3⟩ := hrel
        by_cases hm33 : m3 ≤ M
        case neg =>
          clear HA3
          by_cases hlti : i3 < l[k].lines[j].mods.length
          · have d3 : decide (m3 ≤ M) = false := decide_eq_false hm33
            go_wp2
            go_roundg (l[k].lines.length - (j + 1))
            case rel => exact ⟨j + 1, m3, q3, by omega, rfl, by go_num, rfl, hm30, hm31, rfl, fun h => absurd h (by omega)⟩
            case measure => omega
          · have hlti' : ¬ (i3 : Int) < (l[k].lines[j].mods.length : Int) := by omega
            go_wp2
            go_roundg (l[k].lines.length - (j + 1))
            case rel => exact ⟨j + 1, m3, q3, by omega, rfl, by go_num, rfl, hm30, hm31, rfl, fun h => absurd h (by omega)⟩
            case measure => omega
        by_cases hlti : i3 < l[k].lines[j].mods.length
        case neg =>
          have hall : l[k].lines[j].mods.take i3 = l[k].lines[j].mods := List.take_of_length_le (by omega)
          have HF : Hid (∀ x ∈ l[k].lines.take (j + 1), LnLight x) := HS2.out (by rw [HLL.out]; rw [hall] at HA3; exact HA3.out hm33)
          clear hall
          have hlti' : ¬ (i3 : Int) < (l[k].lines[j].mods.length : Int) := by omega
          go_wp2
          go_roundg (l[k].lines.length - (j + 1))
          case rel => exact ⟨j + 1, m3, q3, by omega, rfl, by go_num, rfl, hm30, hm31, rfl, fun _ => ⟨hll, HF.out⟩⟩
          case measure => omega
        obtain ⟨bt, ot, rfl, hxt, hct⟩ := tx_get HTX.out i3 hlti
        have ht := HZT.out _ (List.mem_of_getElem? hxt)
        have t1 := mk_size l[k].lines[j].mods[i3]
        rw [← t1] at ht
        obtain ⟨u1, u2⟩ := HA3.out hm33
        have HS3 := Lib.hid (tx_snoc l[k].lines[j].mods i3 _ hxt u2)
        have HT1 := Lib.hid t1
        clear hxt t1 HA3 u2
        have d3 : decide (m3 ≤ M) = true := decide_eq_true hm33
        go_wp2
        go_roundg (l[k].lines[j].mods.length - (i3 + 1))
        case rel => exact ⟨i3 + 1, _, q3, by omega, rfl, by go_num, rfl, by omega, by omega, rfl, fun _ => ⟨u1, HS3.out (by have := HT1.out; omega)⟩⟩
        case measure => omega

end Go.Proofs.Ytpfpjbeofogbgaa.Cm
end
