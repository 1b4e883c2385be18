/-
  Texts put together (merge.py): BMem, LCode.
-/
import Derived.Test.YtjgceppbhmmbjaaDoorMb5
/-
  Entries of a book as they lie in memory; rows of entries of the call's own, and what append leaves of them.
-/
section
set_option linter.unusedSimpArgs false
set_option linter.unusedVariables false
set_option maxRecDepth 100000
namespace Go.Proofs.YtjgceppbhmmbjaaDoor.Bk
open Go.RowKit
open Cm (Ln Cl cl0 LnsAt ClCells lnv clv LnOk ClOk)
open Sh (Ot)

abbrev TE : TypeId := 41
/-- An entry with its two rows' values. -/
structure Ev where
  e : En
  m : Value
  o : Value
abbrev enc (x : En) (m mo : Value) : Array Value := #[.string (mk x.cl.id), .string (mk x.cl.mem), .string (mk x.cl.fam), .int .i64 x.cl.net, .int .i64 x.cl.does, .string (mk x.cl.ref), m, .int .i64 x.tb, .int .i64 x.st, mo]
abbrev env (x : En) (m mo : Value) : Value := .agg #[.string (mk x.cl.id), .string (mk x.cl.mem), .string (mk x.cl.fam), .int .i64 x.cl.net, .int .i64 x.cl.does, .string (mk x.cl.ref), m, .int .i64 x.tb, .int .i64 x.st, mo]
def ec (x : Ev) : List Value := [.string (mk x.e.cl.id), .string (mk x.e.cl.mem), .string (mk x.e.cl.fam), .int .i64 x.e.cl.net, .int .i64 x.e.cl.does, .string (mk x.e.cl.ref), x.m, .int .i64 x.e.tb, .int .i64 x.e.st, x.o]
def ecs : List Ev → List Value
  | [] => []
  | x :: r => .string (mk x.e.cl.id) :: .string (mk x.e.cl.mem) :: .string (mk x.e.cl.fam) :: .int .i64 x.e.cl.net :: .int .i64 x.e.cl.does :: .string (mk x.e.cl.ref) :: x.m :: .int .i64 x.e.tb :: .int .i64 x.e.st :: x.o :: ecs r
theorem ecs_cons (f : Ev) (r : List Ev) : ecs (f :: r) = ec f ++ ecs r := rfl
theorem ecs_app (a b : List Ev) : ecs (a ++ b) = ecs a ++ ecs b := by induction a <;> simp_all [ecs]
theorem ecs_len (a : List Ev) : (ecs a).length = a.length * 10 := by induction a <;> simp_all [ecs]; omega
theorem ecs_at : ∀ (a : List Ev) (j : Nat) (x : Ev), a[j]? = some x → ∀ i, i < 10 → (ecs a)[j * 10 + i]? = (ec x)[i]?
  | [], j, x, h, _, _ => by simp at h
  | y :: r, 0, x, h, i, hi => by
    simp at h; subst h
    match i, hi with
    | 0, _ => rfl
    | 1, _ => rfl
    | 2, _ => rfl
    | 3, _ => rfl
    | 4, _ => rfl
    | 5, _ => rfl
    | 6, _ => rfl
    | 7, _ => rfl
    | 8, _ => rfl
    | 9, _ => rfl
  | y :: r, j + 1, x, h, i, hi => by
    have := ecs_at r j x (by simpa using h) i hi
    rw [show (j + 1) * 10 + i = (j * 10 + i) + 10 by omega]
    simpa [ecs] using this
def Sl (x : Ev) : Prop := x.m.oneCell' = true ∧ x.o.oneCell' = true
theorem ecs_one : ∀ (a : List Ev), (∀ x ∈ a, Sl x) → ∀ u ∈ ecs a, u.oneCell' = true
  | [], _, u, h => by simp [ecs] at h
  | f :: r, hs, u, h => by
    have ih := ecs_one r fun x hx => hs x (List.mem_cons_of_mem _ hx)
    have hf := hs f (List.mem_cons_self ..)
    simp only [ecs, List.mem_cons] at h
    rcases h with rfl | rfl | rfl | rfl | rfl | rfl | rfl | rfl | rfl | rfl | h
    all_goals first | rfl | exact hf.1 | exact hf.2 | exact ih u h
theorem ecs_take (l : List Ev) (i : Nat) : ecs (l.take i) = (ecs l).take (i * 10) := by
  rcases Nat.lt_or_ge i l.length with h | h
  · have e : ecs l = ecs (l.take i) ++ ecs (l.drop i) := by rw [← ecs_app, List.take_append_drop]
    have hl : (ecs (l.take i)).length = i * 10 := by rw [ecs_len, List.length_take]; congr 1; omega
    rw [e, List.take_left' hl]
  · rw [List.take_of_length_le h, List.take_of_length_le (by rw [ecs_len]; exact Nat.mul_le_mul_right _ h)]
theorem ecs_drop (l : List Ev) (i : Nat) : ecs (l.drop i) = (ecs l).drop (i * 10) := by
  rcases Nat.lt_or_ge i l.length with h | h
  · have e : ecs l = ecs (l.take i) ++ ecs (l.drop i) := by rw [← ecs_app, List.take_append_drop]
    have hl : (ecs (l.take i)).length = i * 10 := by rw [ecs_len, List.length_take]; congr 1; omega
    rw [e, List.drop_left' hl]
  · rw [List.drop_eq_nil_of_le h, List.drop_eq_nil_of_le (by rw [ecs_len]; exact Nat.mul_le_mul_right _ h)]; rfl

/-! ### Rows that are read -/
def EnCells (w : World) (b o : Nat) (x : En) (m mo : Value) : Prop :=
  w.cell? ⟨b, o, none⟩ = some (.string (mk x.cl.id)) ∧ w.cell? ⟨b, o + 1, none⟩ = some (.string (mk x.cl.mem)) ∧ w.cell? ⟨b, o + 2, none⟩ = some (.string (mk x.cl.fam)) ∧ w.cell? ⟨b, o + 3, none⟩ = some (.int .i64 x.cl.net) ∧ w.cell? ⟨b, o + 4, none⟩ = some (.int .i64 x.cl.does) ∧ w.cell? ⟨b, o + 5, none⟩ = some (.string (mk x.cl.ref)) ∧ w.cell? ⟨b, o + 6, none⟩ = some m ∧ w.cell? ⟨b, o + 7, none⟩ = some (.int .i64 x.tb) ∧ w.cell? ⟨b, o + 8, none⟩ = some (.int .i64 x.st) ∧ w.cell? ⟨b, o + 9, none⟩ = some mo
theorem EnCells.of {w w' : World} {b o : Nat} {x : En} {m mo : Value} (h : EnCells w b o x m mo) (he : w'.heap[b]? = w.heap[b]?) : EnCells w' b o x m mo := by
  obtain ⟨h0, h1, h2, h3, h4, h5, h6, h7, h8, h9⟩ := h
  refine ⟨?_, ?_, ?_, ?_, ?_, ?_, ?_, ?_, ?_, ?_⟩ <;> rw [World.cell?_of_block (w := w) he] <;> assumption
def Cont (K : Nat → Prop) (w : World) (x : Ev) : Prop := LnsAt K w x.m x.e.cl.lines ∧ OtsAt K w x.o x.e.outs
theorem Cont.move {K K' : Nat → Prop} {w w' : World} {x : Ev} (h : Cont K w x) (hm : Moves K K' w w') : Cont K' w' x := ⟨LnsAt.move h.1 hm, h.2.move hm⟩
theorem Cont.all {K : Nat → Prop} {w : World} {x : Ev} (h : Cont K w x) : Cont All w x := h.move (moves_weak w fun _ _ _ => trivial)
theorem Cont.grw {w w' : World} {x : Ev} (h : Cont All w x) (hb : Below w.heap.size w w') : Cont All w' x := h.move (Below.moves hb)
theorem Cont.sl {K : Nat → Prop} {w : World} {x : Ev} (h : Cont K w x) : Sl x := by
  obtain ⟨a, c, e1, -, -⟩ := Cm.LnsAt.form h.1
  obtain ⟨b, d, e2, -, -⟩ := h.2.form
  exact ⟨by rw [e1]; rfl, by rw [e2]; rfl⟩
def EnsAt (K : Nat → Prop) (w : World) (v : Value) (l : List En) : Prop :=
  ∃ a c, v = .slice a l.length c ∧ l.length ≤ c ∧ c ≤ maxLen ∧ (l = [] ∨ ∃ b o, a = some ⟨b, o, none⟩ ∧ K b ∧ b < w.heap.size ∧ ∀ (j : Nat) x, l[j]? = some x → ∃ m mo, EnCells w b (o + j * 10) x m mo ∧ Cont K w ⟨x, m, mo⟩)
theorem EnsAt.move {K K' : Nat → Prop} {w w' : World} {v : Value} {l : List En} (h : EnsAt K w v l) (hm : Moves K K' w w') : EnsAt K' w' v l := by
  obtain ⟨a, c, rfl, h1, h2, h3⟩ := h
  refine ⟨a, c, rfl, h1, h2, h3.imp id ?_⟩
  rintro ⟨b, o, rfl, hk, hb, hc⟩
  obtain ⟨k', hh⟩ := hm.2 b hb hk
  refine ⟨b, o, rfl, k', Nat.lt_of_lt_of_le hb hm.1, fun j x hj => ?_⟩
  obtain ⟨m, mo, q1, q2⟩ := hc j x hj
  exact ⟨m, mo, q1.of hh, q2.move hm⟩
theorem EnsAt.grw {w w' : World} {v : Value} {l : List En} (h : EnsAt All w v l) (hb : Below w.heap.size w w') : EnsAt All w' v l := h.move (Below.moves hb)
theorem EnsAt.all {K : Nat → Prop} {w : World} {v : Value} {l : List En} (h : EnsAt K w v l) : EnsAt All w v l := h.move (moves_weak w fun _ _ _ => trivial)
theorem EnsAt.nil (K : Nat → Prop) (w : World) : EnsAt K w (.slice none 0 0) [] := ⟨none, 0, rfl, by simp, by simp [maxLen], Or.inl rfl⟩
theorem EnsAt.form {K : Nat → Prop} {w : World} {v : Value} {xs : List En} (h : EnsAt K w v xs) : ∃ a c, v = .slice a xs.length c ∧ xs.length ≤ c ∧ c ≤ 9223372036854775807 := by
  obtain ⟨a, c, rfl, h1, h2, _⟩ := h
  exact ⟨a, c, rfl, h1, by unfold maxLen at h2; exact h2⟩
theorem EnsAt.get {K : Nat → Prop} {w : World} {a : Option Addr} {n c : Nat} {ls : List En} (h : EnsAt K w (.slice a n c) ls) (k : Nat) (hk : k < ls.length) :
    ∃ b o m mo, a = some ⟨b, o, none⟩ ∧ b < w.heap.size ∧ ls[k]? = some ls[k] ∧ EnCells w b (o + k * 10) ls[k] m mo ∧ Cont K w ⟨ls[k], m, mo⟩ := by
  obtain ⟨a', c', he, h1, h2, h3⟩ := h
  have ha : a = a' := by injection he
  subst ha
  rcases h3 with h | ⟨b, o, ha, _, hb, hc⟩
  · subst h; simp at hk
  · have hx := List.getElem?_eq_getElem hk
    obtain ⟨m, mo, q1, q2⟩ := hc k _ hx
    exact ⟨b, o, m, mo, ha, hb, hx, q1, q2⟩

/-! ### Rows of the call's own -/
def OwnE (B : Nat) (w : World) (v : Value) (L : List Ev) : Prop := w.ownsRow B TE 10 v L.length (ecs L)
/-- Its own row, and what its entries hold, which lies elsewhere. -/
def Full (B : Nat) (w : World) (v : Value) (L : List Ev) : Prop := OwnE B w v L ∧ ∀ x ∈ L, Cont (fun b => v.ownBlock ≠ some b) w x
theorem Full.at {B : Nat} {w : World} {v : Value} {L : List Ev} (h : Full B w v L) : EnsAt All w v (L.map (·.e)) := by
  obtain ⟨⟨hl, h⟩, hc⟩ := h
  rcases h with ⟨rfl, h0⟩ | ⟨g, cap, cur, rfl, hbg, hg, h1, h2, hs, ht⟩
  · obtain rfl := List.length_eq_zero_iff.1 h0
    exact EnsAt.nil _ _
  · refine ⟨some ⟨g, 0, none⟩, cap, by rw [List.length_map], by rw [List.length_map]; exact h1, h2, Or.inr ⟨g, 0, rfl, trivial, (Array.getElem?_eq_some_iff.1 hg).1, fun j x hj => ?_⟩⟩
    rw [List.getElem?_map] at hj
    obtain ⟨y, hy, rfl⟩ := Option.map_eq_some_iff.1 hj
    have hjl : j < L.length := (List.getElem?_eq_some_iff.1 hy).1
    have e : ∀ i, i < 10 → w.cell? ⟨g, 0 + j * 10 + i, none⟩ = (ec y)[i]? := fun i hi => by
      have q := ecs_at L j y hy i hi
      rw [← ht, List.getElem?_take, if_pos (by omega)] at q
      rw [cell_of_row w g _ cur _ (0, 0) hg, Nat.zero_add]
      simpa using q
    refine ⟨y.m, y.o, ⟨e 0 (by omega), e 1 (by omega), e 2 (by omega), e 3 (by omega), e 4 (by omega), e 5 (by omega), e 6 (by omega), e 7 (by omega), e 8 (by omega), e 9 (by omega)⟩, ?_⟩
    exact (hc y (List.mem_of_getElem? hy)).all
theorem infoE : ∃ i, Tryd.prog.info? TE = some i ∧ i.zero = some (.agg #[.string ByteArray.empty, .string ByteArray.empty, .string ByteArray.empty, .int .i64 0, .int .i64 0, .string ByteArray.empty, .slice none 0 0, .int .i64 0, .int .i64 0, .slice none 0 0]) ∧ i.size = 10 ∧ i.bytes = 144 := by
  have hi : (Tryd.prog.info? TE).map (fun i => (i.zero, i.size, i.bytes)) = some (some (.agg #[.string ByteArray.empty, .string ByteArray.empty, .string ByteArray.empty, .int .i64 0, .int .i64 0, .string ByteArray.empty, .slice none 0 0, .int .i64 0, .int .i64 0, .slice none 0 0]), 10, 144) := by kernel_rfl
  cases hq : Tryd.prog.info? TE with
  | none => rw [hq] at hi; cases hi
  | some i =>
    rw [hq] at hi
    simp only [Option.map_some, Option.some.injEq, Prod.mk.injEq] at hi
    exact ⟨i, rfl, hi⟩
theorem ec_src {w : World} {vb : Nat} {f : Ev} (hx : w.heap[vb]? = some (.cells (enc f.e f.m f.o) TE (0, 0))) (j : Nat) (u : Value) (hj : (ec f)[j]? = some u) : w.cell? ((⟨vb, 0, none⟩ : Addr).add j) = some u := by
  rw [add_lit, Nat.zero_add, cell_of_row w vb j _ _ (0, 0) hx]
  match j, hj with
  | 0, hj => exact hj
  | 1, hj => exact hj
  | 2, hj => exact hj
  | 3, hj => exact hj
  | 4, hj => exact hj
  | 5, hj => exact hj
  | 6, hj => exact hj
  | 7, hj => exact hj
  | 8, hj => exact hj
  | 9, hj => exact hj
  | n + 10, hj => simp [ec] at hj
theorem ec_one (x : Ev) (h : Sl x) : ∀ u ∈ ec x, u.oneCell' = true := fun u hu => ecs_one [x] (by simpa using h) u (by simpa [ecs, ec] using hu)
/-- append(v, x) over entries. -/
theorem wp_app {o : Oper} {a : Act} {w : World} {K : Act → World → Prop} {Q : Exit → Act → World → Prop} (s x : Operand) (ho : o.op = .call { callee := .builtin .append, args := #[s, x], argTypes := #[22, 22] })
    (B : Nat) (v : Value) (L : List Ev) (hs : a.eval s = v) (hown : OwnE B w v L) (b c : Nat) (f : Ev) (hx : a.eval x = .slice (some ⟨b, 0, none⟩) 1 c)
    (hc : w.heap[b]? = some (.cells (enc f.e f.m f.o) TE (0, 0))) (hf : Sl f) (hbd : L.length ≤ 1000000) (hB : B ≤ w.heap.size)
    (h : ∀ v' w', OwnE B w' v' (L ++ [f]) → w.grownBy w' v.ownBlock → (v'.ownBlock = v.ownBlock ∨ v'.ownBlock = some w.heap.size) → K (a.put o.dst v') w') : o.wp Tryd.prog a w K Q := by
  obtain ⟨i, q1, q2, q3, q4⟩ := infoE
  refine wp_append_lies w s x 22 ho B TE i _ 10 144 Tryd.underlying22 q1 q2 q3 q4 rfl (by omega) v L.length (ecs L) hs hown ⟨b, 0, none⟩ 1 c (ec f) hx rfl (ec_src hc) (ec_one f hf) (by omega) (by unfold maxLen; omega) (by omega) hB w.heap.size rfl fun g cap w' hown' hg hat _ => ?_
  refine h _ w' (by unfold OwnE; rw [ecs_app, List.length_append]; exact hown') hg ?_
  rcases hat with e | e
  · exact Or.inl (by rw [e]; rfl)
  · exact Or.inr (by rw [e]; rfl)
theorem Full.form {w : World} {B : Nat} {v : Value} {l : List Ev} (h : Full B w v l) : ∃ a c, v = .slice a l.length c ∧ l.length ≤ c ∧ c ≤ 9223372036854775807 := by
  have := h.at.form
  rwa [List.length_map] at this
theorem Full.grw {w w' : World} {B : Nat} {v : Value} {l : List Ev} (h : Full B w v l) (hb : Below w.heap.size w w') : Full B w' v l := by
  refine ⟨⟨h.1.1, h.1.2.imp id ?_⟩, fun x hx => (h.2 x hx).move ⟨hb.size, fun b hb' hk => ⟨hk, hb.block b hb'⟩⟩⟩
  rintro ⟨g, c, cur, rfl, h0, hh, hr⟩
  exact ⟨g, c, cur, rfl, h0, keepB hh hb, hr⟩
theorem Full.nil (B : Nat) (w : World) : Full B w (.slice none 0 0) [] := ⟨⟨rfl, Or.inl ⟨rfl, rfl⟩⟩, by simp⟩
/-- One more, whose rows lie elsewhere. -/
theorem Full.app {B : Nat} {w w' : World} {v v' : Value} {L : List Ev} {f : Ev} (h : Full B w v L) (hf : Cont (fun b => v.ownBlock ≠ some b) w f) (ho : OwnE B w' v' (L ++ [f])) (hg : w.grownBy w' v.ownBlock) (hv : v'.ownBlock = v.ownBlock ∨ v'.ownBlock = some w.heap.size) : Full B w' v' (L ++ [f]) := by
  refine ⟨ho, fun x hx => ?_⟩
  have hm : Moves (fun b => v.ownBlock ≠ some b) (fun b => v'.ownBlock ≠ some b) w w' := by
    refine ⟨hg.size, fun b hb hk => ⟨?_, hg.block b hb (fun e => hk e.symm)⟩⟩
    rcases hv with e | e
    · rw [e]; exact hk
    · rw [e]; intro q; injection q with q; omega
  rcases List.mem_append.1 hx with hx | hx
  · exact (h.2 x hx).move hm
  · simp at hx; subst hx; exact hf.move hm
/-- What lies below the row's base stands where it grows. -/
theorem grow_low {w w' : World} {B : Nat} {v : Value} {l : List Ev} (ho : OwnE B w v l) (hg : w.grownBy w' v.ownBlock) (hB : B ≤ w.heap.size) : Below B w w' :=
  ⟨hg.os, hg.tape, hg.output, hg.size, fun k hk => hg.block k (by omega) (fun e => by have := (ho.lt k e.symm).1; omega)⟩
theorem Full.off {B : Nat} {w : World} {v : Value} {L : List Ev} (h : Full B w v L) {K : Nat → Prop} {x : Ev} (hx : Cont K w x) (hK : ∀ b, K b → b < B ∨ w.heap.size ≤ b) : Cont (fun b => v.ownBlock ≠ some b) w x := by
  refine hx.move (moves_weak w fun b hb hk e => ?_)
  have := h.1.lt b e
  rcases hK b hk with q | q <;> omega
theorem ten {w : World} {q : Nat} {a0 a1 a2 a3 a4 a5 a6 a7 a8 a9 : Value} {T : TypeId} (h : w.heap[q]? = some (.cells #[a0, a1, a2, a3, a4, a5, a6, a7, a8, a9] T (0, 0))) : w.cell? ⟨q, 0, none⟩ = some a0 ∧ w.cell? ⟨q, 1, none⟩ = some a1 ∧ w.cell? ⟨q, 2, none⟩ = some a2 ∧ w.cell? ⟨q, 3, none⟩ = some a3 ∧ w.cell? ⟨q, 4, none⟩ = some a4 ∧ w.cell? ⟨q, 5, none⟩ = some a5 ∧ w.cell? ⟨q, 6, none⟩ = some a6 ∧ w.cell? ⟨q, 7, none⟩ = some a7 ∧ w.cell? ⟨q, 8, none⟩ = some a8 ∧ w.cell? ⟨q, 9, none⟩ = some a9 := by
  refine ⟨?_, ?_, ?_, ?_, ?_, ?_, ?_, ?_, ?_, ?_⟩ <;> rw [cell_of_row w q _ _ T (0, 0) h] <;> rfl
end Go.Proofs.YtjgceppbhmmbjaaDoor.Bk
end

/-
  What claim.codeSign, Code, name, mods and the reference's Code answer, as contracts: for every text; the world stands.
-/
section
set_option linter.unusedSimpArgs false
namespace Go.Proofs.YtjgceppbhmmbjaaDoor.Cm
open Go.RowKit

theorem sign_any (c : UInt8) (w : World) :
    Calls Tryd.prog 65 #[.int .u8 c.toNat] w fun e w' => e = .returned (.bool (signB c)) ∧ w' = w := by
  unfold signB
  generalize c.toNat = n
  cases h1 : decide (65 ≤ n) <;> cases h2 : decide (n ≤ 90) <;> cases h3 : decide (48 ≤ n) <;> cases h4 : decide (n ≤ 57) <;>
  · simp only [decide_eq_true_eq, decide_eq_false_iff_not] at h1 h2 h3 h4
    first
      | omega
      | (go_enter Tryd.func65, Tryd.ntmps65
         go_wp2
         go_ret
         exact ⟨by first | rfl | (simp; omega), rfl⟩)

theorem all_take {p : UInt8 → Bool} (s : Tx) (k : Nat) (c : UInt8) (h : s[k]? = some c) (hk : (s.take k).all p = true) (hc : p c = true) : (s.take (k + 1)).all p = true := by
  rw [List.take_add_one, h]; simp_all
theorem all_not {p : UInt8 → Bool} (s : Tx) (k : Nat) (c : UInt8) (h : s[k]? = some c) (hc : p c = false) : s.all p = false := by
  rw [List.all_eq_false]
  exact ⟨c, List.mem_of_getElem? h, by simp [hc]⟩
theorem code_short (s : Tx) (f t : Int) (h : (s.length : Int) < f) : codeB s f t = false := by unfold codeB; rw [decide_eq_false (by omega)]; simp
theorem code_long (s : Tx) (f t : Int) (h : t < (s.length : Int)) : codeB s f t = false := by unfold codeB; rw [decide_eq_false (p := (s.length : Int) ≤ t) (by omega)]; simp
theorem code_in (s : Tx) (f t : Int) (h1 : f ≤ (s.length : Int)) (h2 : (s.length : Int) ≤ t) : codeB s f t = s.all signB := by unfold codeB; rw [decide_eq_true h1, decide_eq_true h2]; simp
theorem mk_at (s : Tx) (k : Nat) (hk : k < (mk s).size) : s[k]? = some (mk s)[k] := by
  have hl : k < s.length := by rw [← mk_size]; exact hk
  rw [List.getElem?_eq_getElem hl]
  rfl

set_option maxHeartbeats 1000000 in
theorem code_any (s : Tx) (f t : Int) (w : World) (hs : s.length ≤ 9223372036854775807) :
    Calls Tryd.prog 55 #[.string (mk s), .int .i64 f, .int .i64 t] w fun e w' => e = .returned (.bool (codeB s f t)) ∧ w' = w := by
  have hz := mk_size s
  have HS := Lib.hid hs
  have HAT := Lib.hid (mk_at s)
  have HSH := Lib.hid (code_short s f t)
  have HLO := Lib.hid (code_long s f t)
  have HIN := Lib.hid (code_in s f t)
  generalize codeB s f t = R at *
  rw [← hz] at hs HSH HLO HIN
  have HZ := Lib.hid hz
  clear hz
  generalize mk s = X at *
  by_cases h1 : (X.size : Int) < f
  · rw [HSH.out h1]
    go_enter Tryd.func55, Tryd.ntmps55
    go_wp2
    go_ret
    exact ⟨rfl, rfl⟩
  by_cases h2 : t < (X.size : Int)
  · rw [HLO.out h2]
    go_enter Tryd.func55, Tryd.ntmps55
    go_wp2
    go_ret
    exact ⟨rfl, rfl⟩
  rw [HIN.out (by omega) (by omega)]
  go_enter Tryd.func55, Tryd.ntmps55
  go_wp2
  go_loopg [20] (X.size) (fun g i wr => ∃ k : Nat, k ≤ X.size ∧ g = X.size - k ∧ i = .int .i64 k ∧ wr = w ∧ Hid ((s.take k).all signB = true))
  case atStart => exact ⟨0, Nat.zero_le _, rfl, rfl, rfl, rfl⟩
  case round =>
    obtain ⟨k, hk, hg, rfl, hw, HA⟩ := hrel
    rw [hw]
    clear hw wr
    by_cases hlt : k < X.size
    · have HC := Lib.hid (HAT.out k hlt)
      cases hq : signB X[k]
      · go_wp2_with (go_at_call 65; refine (sign_any _ _).mono ?_; rintro e w' ⟨rfl, rfl⟩)
        go_ret
        exact ⟨by rw [all_not s k _ HC.out hq]; rfl, rfl⟩
      · go_wp2_with (go_at_call 65; refine (sign_any _ _).mono ?_; rintro e w' ⟨rfl, rfl⟩)
        go_roundg (X.size - (k + 1))
        case rel => exact ⟨k + 1, by omega, rfl, by go_num, rfl, all_take s k _ HC.out HA.out hq⟩
        case measure => omega
    · have hall : (s.take k) = s := List.take_of_length_le (by rw [← HZ.out]; omega)
      rw [hall] at HA
      clear hall
      go_wp2
      go_ret
      exact ⟨by rw [HA.out]; rfl, rfl⟩

set_option maxHeartbeats 1000000 in
theorem rcode_any (s : Tx) (f t : Int) (w : World) (hs : s.length ≤ 9223372036854775807) :
    Calls Tryd.prog 42 #[.string (mk s), .int .i64 f, .int .i64 t] w fun e w' => e = .returned (.bool (codeB s f t)) ∧ w' = w := by
  have hz := mk_size s
  have HS := Lib.hid hs
  have HAT := Lib.hid (mk_at s)
  have HSH := Lib.hid (code_short s f t)
  have HLO := Lib.hid (code_long s f t)
  have HIN := Lib.hid (code_in s f t)
  generalize codeB s f t = R at *
  rw [← hz] at hs HSH HLO HIN
  have HZ := Lib.hid hz
  clear hz
  generalize mk s = X at *
  by_cases h1 : (X.size : Int) < f
  · rw [HSH.out h1]
    go_enter Tryd.func42, Tryd.ntmps42
    go_wp2
    go_ret
    exact ⟨rfl, rfl⟩
  by_cases h2 : t < (X.size : Int)
  · rw [HLO.out h2]
    go_enter Tryd.func42, Tryd.ntmps42
    go_wp2
    go_ret
    exact ⟨rfl, rfl⟩
  rw [HIN.out (by omega) (by omega)]
  go_enter Tryd.func42, Tryd.ntmps42
  go_wp2
  go_loopg [7] (X.size) (fun g i wr => ∃ k : Nat, k ≤ X.size ∧ g = X.size - k ∧ i = .int .i64 k ∧ wr = w ∧ Hid ((s.take k).all signB = true))
  case atStart => exact ⟨0, Nat.zero_le _, rfl, rfl, rfl, rfl⟩
  case round =>
    obtain ⟨k, hk, hg, rfl, hw, HA⟩ := hrel
    rw [hw]
    clear hw wr
    by_cases hlt : k < X.size
    · have HC := Lib.hid (HAT.out k hlt)
      have HQ : Hid (signB X[k] = ((decide (65 ≤ X[k].toNat) && decide (X[k].toNat ≤ 90)) || (decide (48 ≤ X[k].toNat) && decide (X[k].toNat ≤ 57)))) := rfl
      by_cases g1 : 65 ≤ X[k].toNat ∧ X[k].toNat ≤ 90
      · obtain ⟨g1, g2⟩ := g1
        have g3 : 48 ≤ X[k].toNat := by omega
        have g4 : ¬ X[k].toNat ≤ 57 := by omega
        have d4 : decide ((X[k].toNat : Int) ≤ 57) = false := decide_eq_false (by omega)
        have d2 : decide ((X[k].toNat : Int) ≤ 90) = true := decide_eq_true (by omega)
        have hq := HQ.out
        rw [decide_eq_true g1, decide_eq_true g2] at hq
        have HQ2 := Lib.hid hq
        clear hq
        go_wp2
        go_roundg (X.size - (k + 1))
        case rel => exact ⟨k + 1, by omega, rfl, by go_num, rfl, all_take s k _ HC.out HA.out HQ2.out⟩
        case measure => omega
      by_cases g3 : 48 ≤ X[k].toNat ∧ X[k].toNat ≤ 57
      · obtain ⟨g3, g4⟩ := g3
        have g5 : ¬ 65 ≤ X[k].toNat := by omega
        have d4 : decide ((X[k].toNat : Int) ≤ 57) = true := decide_eq_true (by omega)
        have hq := HQ.out
        rw [decide_eq_true g3, decide_eq_true g4, Bool.and_self, Bool.or_true] at hq
        have HQ2 := Lib.hid hq
        clear hq g1
        go_wp2
        go_roundg (X.size - (k + 1))
        case rel => exact ⟨k + 1, by omega, rfl, by go_num, rfl, all_take s k _ HC.out HA.out HQ2.out⟩
        case measure => omega
      have HQ2 : Hid (signB X[k] = false) := by
        show _ = _
        rw [HQ.out]
        simp
        omega
      by_cases g5 : 65 ≤ X[k].toNat
      · have g6 : ¬ X[k].toNat ≤ 90 := by omega
        have g7 : 48 ≤ X[k].toNat := by omega
        have g8 : ¬ X[k].toNat ≤ 57 := by omega
        have d4 : decide ((X[k].toNat : Int) ≤ 57) = false := decide_eq_false (by omega)
        have d2 : decide ((X[k].toNat : Int) ≤ 90) = false := decide_eq_false (by omega)
        clear g1 g3
        go_wp2
        go_ret
        exact ⟨by rw [all_not s k _ HC.out HQ2.out]; rfl, rfl⟩
      · by_cases g7 : 48 ≤ X[k].toNat
        · have g8 : ¬ X[k].toNat ≤ 57 := by omega
          have d4 : decide ((X[k].toNat : Int) ≤ 57) = false := decide_eq_false (by omega)
          clear g1 g3
          go_wp2
          go_ret
          exact ⟨by rw [all_not s k _ HC.out HQ2.out]; rfl, rfl⟩
        · clear g1 g3
          go_wp2
          go_ret
          exact ⟨by rw [all_not s k _ HC.out HQ2.out]; rfl, rfl⟩
    · have hall : (s.take k) = s := List.take_of_length_le (by rw [← HZ.out]; omega)
      rw [hall] at HA
      clear hall
      go_wp2
      go_ret
      exact ⟨by rw [HA.out]; rfl, rfl⟩

theorem name_any (s : Tx) (w : World) (hs : s.length ≤ 9223372036854775807) :
    Calls Tryd.prog 47 #[.string (mk s)] w fun e w' => e = .returned (.bool (codeB s 1 12)) ∧ w' = w := by
  have HC := Lib.hid fun w => code_any s 1 12 w hs
  generalize codeB s 1 12 = R at *
  go_enter Tryd.func47, Tryd.ntmps47
  go_wp2_with (go_at_call 55; refine (HC.out _).mono ?_; rintro e w' ⟨rfl, rfl⟩)
  go_ret
  exact ⟨rfl, rfl⟩

theorem mods_take (l : List Tx) (k : Nat) (c : Tx) (h : l[k]? = some c) (hk : ((l.take k).all fun x => codeB x 2 2) = true) (hc : codeB c 2 2 = true) : ((l.take (k + 1)).all fun x => codeB x 2 2) = true := by
  rw [List.take_add_one, h]; simp_all
theorem mods_not (l : List Tx) (k : Nat) (c : Tx) (h : l[k]? = some c) (hc : codeB c 2 2 = false) : modsB l = false := by
  unfold modsB
  have : (l.all fun x => codeB x 2 2) = false := by
    rw [List.all_eq_false]
    exact ⟨c, List.mem_of_getElem? h, by simp [hc]⟩
  rw [this]; simp
theorem mods_many (l : List Tx) (h : ¬ l.length ≤ 4) : modsB l = false := by unfold modsB; rw [decide_eq_false h]; rfl
theorem mods_all (l : List Tx) (k : Nat) (h : l.length ≤ 4) (hk : l.length ≤ k) (ha : ((l.take k).all fun x => codeB x 2 2) = true) : modsB l = true := by
  rw [List.take_of_length_le hk] at ha
  unfold modsB; rw [decide_eq_true h, ha]; rfl

set_option maxHeartbeats 1000000 in
theorem mods_any (v : Value) (l : List Tx) (w : World) (h : TxAt All w v l) (hz : ∀ t ∈ l, t.length ≤ 281474976710656) :
    Calls Tryd.prog 56 #[v] w fun e w' => e = .returned (.bool (modsB l)) ∧ w' = w := by
  have HV := Lib.hid h
  have HZ := Lib.hid hz
  obtain ⟨a, c, rfl, h1, h2⟩ := TxAt.form h
  clear h hz
  have HM := Lib.hid (mods_many l)
  have HALL := Lib.hid (mods_all l)
  have HNO := Lib.hid (mods_not l)
  generalize modsB l = R at *
  by_cases h4 : l.length ≤ 4
  · have h4' : ¬ (4 : Int) < (l.length : Int) := by omega
    go_enter Tryd.func56, Tryd.ntmps56
    go_wp2
    go_loopg [10] (l.length) (fun g i wr => ∃ k : Nat, k ≤ l.length ∧ g = l.length - k ∧ i = .int .i64 k ∧ wr = w ∧ Hid (((l.take k).all fun x => codeB x 2 2) = true))
    case atStart => exact ⟨0, Nat.zero_le _, rfl, rfl, rfl, rfl⟩
    case round =>
      obtain ⟨k, hk, hg, rfl, hw, HA⟩ := hrel
      rw [hw]
      clear hw wr
      by_cases hlt : k < l.length
      · obtain ⟨b, o, rfl, hx, hu⟩ := tx_get HV.out k hlt
        have HX := Lib.hid hx
        have hq := HZ.out _ (List.mem_of_getElem? hx)
        have HC := Lib.hid fun w => code_any l[k] 2 2 w (by omega)
        clear hq hx
        cases hq : codeB l[k] 2 2
        · rw [hq] at HC
          have HQ := Lib.hid (HNO.out k _ HX.out hq)
          clear hq
          go_wp2_with (go_at_call 55; refine (HC.out _).mono ?_; rintro e w' ⟨rfl, rfl⟩)
          go_ret
          exact ⟨by rw [HQ.out]; rfl, rfl⟩
        · rw [hq] at HC
          have HQ := Lib.hid (mods_take l k _ HX.out HA.out hq)
          clear hq
          go_wp2_with (go_at_call 55; refine (HC.out _).mono ?_; rintro e w' ⟨rfl, rfl⟩)
          go_roundg (l.length - (k + 1))
          case rel => exact ⟨k + 1, by omega, rfl, by go_num, rfl, HQ.out⟩
          case measure => omega
      · have HQ := Lib.hid (HALL.out k h4 (by omega) HA.out)
        go_wp2
        go_ret
        exact ⟨by rw [HQ.out]; rfl, rfl⟩
  · rw [HM.out h4]
    have h4' : (4 : Int) < (l.length : Int) := by omega
    go_enter Tryd.func56, Tryd.ntmps56
    go_wp2
    go_ret
    exact ⟨rfl, rfl⟩
end Go.Proofs.YtjgceppbhmmbjaaDoor.Cm
end
