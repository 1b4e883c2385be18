/-
  Texts put together (merge.py): URule, PJo, CRefs.
-/
import Derived.Laws.AppendOwn
import Derived.Deep.AppendLies
import Derived.Maps.AppendAt
import Derived.KernelRfl
import Derived.Test.YtoibhgoaibjopaaGreatDoorMj9
import Derived.Test.YtoibhgoaibjopaaGreatDoorMj14
import Derived.Test.YtoibhgoaibjopaaGreatDoorMj31
import Derived.Test.YtoibhgoaibjopaaGreatDoorMj11
/-
  Rows of rules of the call's own, whose rules' own rows lie below a block: what append leaves, whatever is appended.
-/
section
set_option linter.unusedSimpArgs false
set_option linter.unusedVariables false
set_option maxRecDepth 100000
namespace Go.Proofs.YtoibhgoaibjopaaGreatDoor.Rr
open Go.RowKit
open Pl (Cd St Ru Pn KsAt StsAt RusAt RuIn RuCells)

abbrev Rw := Ru × Value × Value × Value
def rcs : List Rw → List Value
  | [] => []
  | (r, k, u, s) :: t => .int .i64 r.rank :: .int .i64 r.cif.kind :: .string (mk r.cif.lo) :: .string (mk r.cif.hi) :: .int .i64 r.cif.n :: k :: u :: s :: rcs t
abbrev r8 (t : Rw) : List Value := [.int .i64 t.1.rank, .int .i64 t.1.cif.kind, .string (mk t.1.cif.lo), .string (mk t.1.cif.hi), .int .i64 t.1.cif.n, t.2.1, t.2.2.1, t.2.2.2]
theorem rcs_cons (t : Rw) (l : List Rw) : rcs (t :: l) = r8 t ++ rcs l := rfl
theorem rcs_app (a b : List Rw) : rcs (a ++ b) = rcs a ++ rcs b := by induction a <;> simp_all [rcs]
theorem rcs_len (a : List Rw) : (rcs a).length = a.length * 8 := by induction a <;> simp_all [rcs]; omega
theorem rcs_take (a : List Rw) (n : Nat) : rcs (a.take n) = (rcs a).take (n * 8) := by
  induction a generalizing n with
  | nil => simp [rcs]
  | cons t r ih =>
    cases n with
    | zero => simp [rcs]
    | succ n => rw [List.take_succ_cons, rcs_cons, rcs_cons, ih, show (n + 1) * 8 = n * 8 + 8 by omega]; rfl
theorem rcs_drop (a : List Rw) (n : Nat) : rcs (a.drop n) = (rcs a).drop (n * 8) := by
  induction a generalizing n with
  | nil => simp [rcs]
  | cons t r ih =>
    cases n with
    | zero => simp [rcs]
    | succ n => rw [List.drop_succ_cons, ih, rcs_cons, show (n + 1) * 8 = n * 8 + 8 by omega]; rfl
theorem rcs_at : ∀ (a : List Rw) (j : Nat) (t : Rw), a[j]? = some t → ∀ i, i < 8 → (rcs a)[j * 8 + i]? = (r8 t)[i]?
  | [], j, t, h, _, _ => by simp at h
  | (r, k, u, s) :: b, 0, t, h, i, hi => by
    simp at h; subst h
    match i, hi with
    | 0, _ => rfl
    | 1, _ => rfl
    | 2, _ => rfl
    | 3, _ => rfl
    | 4, _ => rfl
    | 5, _ => rfl
    | 6, _ => rfl
    | 7, _ => rfl
  | (r, k, u, s) :: b, j + 1, t, h, i, hi => by
    have := rcs_at b j t (by simpa using h) i hi
    rw [show (j + 1) * 8 + i = (j * 8 + i) + 8 by omega]
    simpa [rcs] using this
/-- What lies in rows that are read: the rules with their rows. -/
theorem rows_of {K : Nat → Prop} {w : World} {b : Nat} : ∀ (rs : List Ru) (o : Nat), (∀ (j : Nat) x, rs[j]? = some x → ∃ k u s, RuCells w b (o + j * 8) x k u s ∧ RuIn K w x k u s) →
    ∃ L : List Rw, L.map (·.1) = rs ∧ (∀ j u, (rcs L)[j]? = some u → w.cell? ⟨b, o + j, none⟩ = some u) ∧ ∀ t ∈ L, RuIn K w t.1 t.2.1 t.2.2.1 t.2.2.2
  | [], o, _ => ⟨[], rfl, by simp [rcs], by simp⟩
  | r :: rs, o, h => by
    obtain ⟨k, u, s, ⟨c0, c1, c2, c3, c4, c5, c6, c7⟩, hin⟩ := h 0 r rfl
    obtain ⟨L, h1, h2, h3⟩ := rows_of rs (o + 8) (fun j x hj => by
      obtain ⟨k, u, s, hc, hi⟩ := h (j + 1) x (by simpa using hj)
      exact ⟨k, u, s, by rw [show o + 8 + j * 8 = o + (j + 1) * 8 by omega]; exact hc, hi⟩)
    rw [Nat.zero_mul, Nat.add_zero] at c0 c1 c2 c3 c4 c5 c6 c7
    refine ⟨(r, k, u, s) :: L, by simp [h1], fun j v hj => ?_, fun t ht => ?_⟩
    · match j, hj with
      | 0, hj => rw [← Option.some.inj hj]; exact c0
      | 1, hj => rw [← Option.some.inj hj]; exact c1
      | 2, hj => rw [← Option.some.inj hj]; exact c2
      | 3, hj => rw [← Option.some.inj hj]; exact c3
      | 4, hj => rw [← Option.some.inj hj]; exact c4
      | 5, hj => rw [← Option.some.inj hj]; exact c5
      | 6, hj => rw [← Option.some.inj hj]; exact c6
      | 7, hj => rw [← Option.some.inj hj]; exact c7
      | n + 8, hj => rw [show o + (n + 8) = o + 8 + n by omega]; exact h2 n v hj
    · rcases List.mem_cons.1 ht with rfl | ht
      · exact hin
      · exact h3 t ht
theorem rus_rows {K : Nat → Prop} {w : World} {a : Option Addr} {n c : Nat} {rs : List Ru} (h : RusAt K w (.slice a n c) rs) (hne : 0 < rs.length) :
    ∃ (b o : Nat) (L : List Rw), a = some ⟨b, o, none⟩ ∧ L.map (·.1) = rs ∧ (∀ j u, (rcs L)[j]? = some u → w.cell? ⟨b, o + j, none⟩ = some u) ∧ ∀ t ∈ L, RuIn K w t.1 t.2.1 t.2.2.1 t.2.2.2 := by
  obtain ⟨a', c', he, h1, h2, _, h3⟩ := h
  have ha : a = a' := by injection he
  subst ha
  rcases h3 with h | ⟨b, o, ha, _, _, hc⟩
  · subst h; simp at hne
  · obtain ⟨L, q1, q2, q3⟩ := rows_of rs o hc
    exact ⟨b, o, L, ha, q1, q2, q3⟩
theorem rcs_one {K : Nat → Prop} {w : World} : ∀ (L : List Rw), (∀ t ∈ L, RuIn K w t.1 t.2.1 t.2.2.1 t.2.2.2) → ∀ u ∈ rcs L, u.oneCell' = true
  | [], _, u, h => by simp [rcs] at h
  | (r, k, v, s) :: L, hi, u, h => by
    have ih := rcs_one L fun t ht => hi t (List.mem_cons_of_mem _ ht)
    obtain ⟨-, -, -, h1, h2, h3⟩ := hi _ List.mem_cons_self
    obtain ⟨a1, c1, e1, -⟩ := h1.form
    obtain ⟨a2, c2, e2, -⟩ := h2.form
    obtain ⟨a3, c3, e3, -⟩ := h3.form
    have e1 : k = .slice a1 r.cif.kids.length c1 := e1
    have e2 : v = .slice a2 r.unl.length c2 := e2
    have e3 : s = .slice a3 r.sets.length c3 := e3
    clear h1 h2 h3 hi
    simp only [rcs, List.mem_cons] at h
    rcases h with h | h | h | h | h | h | h | h | h
    all_goals first | exact ih u h | (rw [h]; rfl) | (rw [h, e1]; rfl) | (rw [h, e2]; rfl) | (rw [h, e3]; rfl)
/-- A row of the call's own: what lies in its rules lies below B. -/
def RvLo (B : Nat) (w : World) (v : Value) (L : List Rw) : Prop := w.ownsRow B 35 8 v L.length (rcs L) ∧ ∀ t ∈ L, RuIn (fun b => b < B) w t.1 t.2.1 t.2.2.1 t.2.2.2
theorem RvLo.nil (B : Nat) (w : World) : RvLo B w (.slice none 0 0) [] := ⟨World.ownsRow_nil _ _ _ _, by simp⟩
theorem own_rus {B : Nat} {K : Nat → Prop} {w : World} {v : Value} {L : List Rw} (h : w.ownsRow B 35 8 v L.length (rcs L)) (hin : ∀ t ∈ L, RuIn K w t.1 t.2.1 t.2.2.1 t.2.2.2) (hl : L.length ≤ 1000) : RusAt All w v (L.map (·.1)) := by
  have hlen : (L.map (·.1)).length = L.length := by simp
  have hmv : Moves K All w w := moves_weak w fun b _ hk => trivial
  obtain ⟨hln, h⟩ := h
  rcases h with ⟨rfl, h0⟩ | ⟨g, cap, cur, rfl, hB, hg, h1, h2, hs, ht⟩
  · obtain rfl := List.length_eq_zero_iff.1 h0
    exact RusAt.nil _ _
  · refine ⟨_, cap, by rw [hlen], by rw [hlen]; exact h1, h2, by rw [hlen]; unfold Pl.Big; omega, Or.inr ⟨g, 0, rfl, trivial, (Array.getElem?_eq_some_iff.1 hg).1, fun j x hj => ?_⟩⟩
    rw [List.getElem?_map] at hj
    cases hL : L[j]? with
    | none => rw [hL] at hj; cases hj
    | some t =>
      rw [hL] at hj
      obtain rfl := Option.some.inj hj
      have hjl : j < L.length := (List.getElem?_eq_some_iff.1 hL).1
      have e : ∀ i, i < 8 → w.cell? ⟨g, 0 + j * 8 + i, none⟩ = (r8 t)[i]? := fun i hi => by
        have q := rcs_at L j t hL i hi
        rw [← ht, List.getElem?_take, if_pos (by omega)] at q
        rw [cell_of_row w g _ cur _ (0, 0) hg, Nat.zero_add]
        simpa using q
      exact ⟨t.2.1, t.2.2.1, t.2.2.2, ⟨e 0 (by omega), e 1 (by omega), e 2 (by omega), e 3 (by omega), e 4 (by omega), e 5 (by omega), e 6 (by omega), e 7 (by omega)⟩, (hin t (List.mem_of_getElem? hL)).move hmv⟩
theorem RvLo.rus {B : Nat} {w : World} {v : Value} {L : List Rw} (h : RvLo B w v L) (hl : L.length ≤ 1000) : RusAt All w v (L.map (·.1)) := own_rus h.1 h.2 hl
/-- What stands where another block is written, or memory is made. -/
theorem RvLo.far {B q : Nat} {w w' : World} {v : Value} {L : List Rw} (h : RvLo B w v L) (hb : Below B w w') (hf : ∀ b, b < w.heap.size → v.ownBlock = some b → w'.heap[b]? = w.heap[b]?) : RvLo B w' v L := by
  refine ⟨⟨h.1.1, ?_⟩, fun t ht => (h.2 t ht).move (Below.moves_lo hb)⟩
  rcases h.1.2 with h0 | ⟨g, cap, cur, rfl, hB, hg, h1⟩
  · exact Or.inl h0
  · exact Or.inr ⟨g, cap, cur, rfl, hB, by rw [hf g (Array.getElem?_eq_some_iff.1 hg).1 rfl]; exact hg, h1⟩
theorem infoR : ∃ i, Tryz.prog.info? 35 = some i ∧ i.zero = some (.agg #[.int .i64 0, .int .i64 0, .string ByteArray.empty, .string ByteArray.empty, .int .i64 0, .slice none 0 0, .slice none 0 0, .slice none 0 0]) ∧ i.size = 8 ∧ i.bytes = 128 := by
  have hi : (Tryz.prog.info? 35).map (fun i => (i.zero, i.size, i.bytes)) = some (some (.agg #[.int .i64 0, .int .i64 0, .string ByteArray.empty, .string ByteArray.empty, .int .i64 0, .slice none 0 0, .slice none 0 0, .slice none 0 0]), 8, 128) := by kernel_rfl
  cases hq : Tryz.prog.info? 35 with
  | none => rw [hq] at hi; cases hi
  | some i =>
    rw [hq] at hi
    simp only [Option.map_some, Option.some.injEq, Prod.mk.injEq] at hi
    exact ⟨i, rfl, hi⟩
theorem app0 {w : World} {B : Nat} (ty : Nat) (ad : Option Addr) (c : Nat) (v : Value) (n : Nat) (xs : List Value) (hown : w.ownsRow B 35 8 v n xs) : (Builtin.append_ #[22, 22] ty #[v, .slice ad 0 c]).run Tryz.prog w = .ok v w := by
  obtain ⟨i, q1, _, q2, _⟩ := infoR
  rcases hown.2 with ⟨rfl, rfl⟩ | ⟨g, cap, cur, rfl, _, _, hnc, _⟩
  · cases ad <;> simp [Builtin.append_, run_underlying Tryz.underlying22, sizeOf, typeInfo, q1, Builtin.lenOf, Builtin.firstCells, loadCells, loadCellsFrom]
  · cases ad <;> simp [Builtin.append_, run_underlying Tryz.underlying22, sizeOf, typeInfo, q1, Builtin.lenOf, Builtin.firstCells, hnc, storeCells, loadCells, loadCellsFrom]
/-- append(v, x...) over rules, whatever x holds. -/
theorem wp_app {o : Oper} {a : Act} {w : World} {K : Act → World → Prop} {Q : Exit → Act → World → Prop} (s x : Operand) (ho : o.op = .call { callee := .builtin .append, args := #[s, x], argTypes := #[22, 22] })
    (B : Nat) (v : Value) (L : List Rw) (hs : a.eval s = v) (hown : w.ownsRow B 35 8 v L.length (rcs L)) (ad : Option Addr) (m c : Nat) (L2 : List Rw) (hx : a.eval x = .slice ad m c) (hm : m = L2.length)
    (hc : m = 0 ∨ ∃ b o', ad = some ⟨b, o', none⟩ ∧ ∀ j u, (rcs L2)[j]? = some u → w.cell? ⟨b, o' + j, none⟩ = some u) (h1 : ∀ u ∈ rcs L2, u.oneCell' = true) (hbd : L.length + L2.length ≤ 1000) (hB : B ≤ w.heap.size)
    (h : ∀ v' w', w'.ownsRow B 35 8 v' (L ++ L2).length (rcs (L ++ L2)) → w.grownBy w' v.ownBlock → (v'.ownBlock = v.ownBlock ∨ v'.ownBlock = some w.heap.size) → K (a.put o.dst v') w') : o.wp Tryz.prog a w K Q := by
  by_cases hm0 : m = 0
  · subst hm0
    have e2 : L2 = [] := List.length_eq_zero_iff.1 hm.symm
    subst e2
    have hrun := app0 (w := w) o.type ad c v L.length (rcs L) hown
    have hh := h v w (by rw [List.append_nil]; exact hown) ⟨rfl, rfl, rfl, Nat.le_refl _, fun _ _ _ => rfl⟩ (Or.inl rfl)
    unfold Oper.wp
    simp [execOp, ho, resolve, invoke, builtin, hs, hx, hrun, Result.andThen]
    exact hh
  · obtain ⟨b, o', rfl, hc2⟩ := hc.resolve_left hm0
    obtain ⟨i, q1, q2, q3, q4⟩ := infoR
    refine wp_append_lies w s x 22 ho B 35 i _ 8 128 Tryz.underlying22 q1 q2 q3 q4 rfl (by omega) v L.length (rcs L) hs hown ⟨b, o', none⟩ m c (rcs L2) hx (by rw [rcs_len, hm]) (fun j u hj => ?_) h1 (by omega) (by unfold maxLen; omega) (by omega) hB w.heap.size rfl fun g cap w' hown' hg hat _ => ?_
    · have := hc2 j u hj
      rw [show (⟨b, o', none⟩ : Addr).add j = ⟨b, o' + j, none⟩ by unfold Addr.add; split <;> simp_all]
      exact this
    · refine h _ w' (by rw [rcs_app, List.length_append, ← hm]; exact hown') hg ?_
      rcases hat with e | e
      · exact Or.inl (by rw [e]; rfl)
      · exact Or.inr (by rw [e]; rfl)
end Go.Proofs.YtoibhgoaibjopaaGreatDoor.Rr
end

/-
  What PlanJoins leans on: boxes of a plan and a rule; a row of one rule; rows of the call's own; lengths.
-/
section
set_option linter.unusedSimpArgs false
set_option linter.unusedVariables false
set_option maxRecDepth 100000
namespace Go.Proofs.YtoibhgoaibjopaaGreatDoor.Pj
open Go.RowKit
open Pl
open Wo (Wd WdsAt box_cell box_two keepB heap_far mk_cat)

/-- A plan's box and a rule's, laid one behind the other. -/
theorem box_pr (w : World) (p : Pn) (m : Value) (r : Ru) (k u s : Value) :
    Below w.heap.size w ((w.alloc (.cells #[.int .i64 p.mode, .int .i64 p.indDed, .int .i64 p.famDed, .int .i64 p.indOop, .int .i64 p.famOop, m] 24)).alloc (.cells #[.int .i64 r.rank, .int .i64 r.cif.kind, .string (mk r.cif.lo), .string (mk r.cif.hi), .int .i64 r.cif.n, k, u, s] 35)) ∧
    ((w.alloc (.cells #[.int .i64 p.mode, .int .i64 p.indDed, .int .i64 p.famDed, .int .i64 p.indOop, .int .i64 p.famOop, m] 24)).alloc (.cells #[.int .i64 r.rank, .int .i64 r.cif.kind, .string (mk r.cif.lo), .string (mk r.cif.hi), .int .i64 r.cif.n, k, u, s] 35)).heap[w.heap.size]? = some (.cells #[.int .i64 p.mode, .int .i64 p.indDed, .int .i64 p.famDed, .int .i64 p.indOop, .int .i64 p.famOop, m] 24 (0, 0)) ∧
    ((w.alloc (.cells #[.int .i64 p.mode, .int .i64 p.indDed, .int .i64 p.famDed, .int .i64 p.indOop, .int .i64 p.famOop, m] 24)).alloc (.cells #[.int .i64 r.rank, .int .i64 r.cif.kind, .string (mk r.cif.lo), .string (mk r.cif.hi), .int .i64 r.cif.n, k, u, s] 35)).heap[w.heap.size + 1]? = some (.cells #[.int .i64 r.rank, .int .i64 r.cif.kind, .string (mk r.cif.lo), .string (mk r.cif.hi), .int .i64 r.cif.n, k, u, s] 35 (0, 0)) := by
  refine ⟨below_trans (below_alloc w _) (below_alloc _ _), keepB (heap_alloc_new w _) (below_alloc _ _), ?_⟩
  have h := heap_alloc_new (w.alloc (.cells #[.int .i64 p.mode, .int .i64 p.indDed, .int .i64 p.famDed, .int .i64 p.indOop, .int .i64 p.famOop, m] 24)) (.cells #[.int .i64 r.rank, .int .i64 r.cif.kind, .string (mk r.cif.lo), .string (mk r.cif.hi), .int .i64 r.cif.n, k, u, s] 35)
  rwa [show (w.alloc (.cells #[.int .i64 p.mode, .int .i64 p.indDed, .int .i64 p.famDed, .int .i64 p.indOop, .int .i64 p.famOop, m] 24)).heap.size = w.heap.size + 1 by simp] at h
/-- A row of one rule. -/
theorem rus_one {w : World} {b : Nat} {r : Ru} {k u s : Value} {T : TypeId} (h : w.heap[b]? = some (.cells #[.int .i64 r.rank, .int .i64 r.cif.kind, .string (mk r.cif.lo), .string (mk r.cif.hi), .int .i64 r.cif.n, k, u, s] T (0, 0))) (hin : RuIn All w r k u s) : RusAt All w (.slice (some ⟨b, 0, none⟩) 1 1) [r] := by
  refine ⟨_, _, rfl, Nat.le_refl _, by unfold maxLen; simp, by unfold Pl.Big; simp, Or.inr ⟨_, _, rfl, trivial, (Array.getElem?_eq_some_iff.1 h).1, fun j x hj => ?_⟩⟩
  have c := fun j => cell_of_row w b j _ _ (0, 0) h
  match j, hj with
  | 0, hj =>
    obtain rfl : r = x := Option.some.inj hj
    exact ⟨k, u, s, ⟨c 0, c 1, c 2, c 3, c 4, c 5, c 6, c 7⟩, hin⟩
  | n + 1, hj => simp at hj
theorem rows_any {K : Nat → Prop} {w : World} {a : Option Addr} {n c : Nat} {rs : List Ru} (h : RusAt K w (.slice a n c) rs) :
    ∃ L : List Rr.Rw, L.map (·.1) = rs ∧ (n = 0 ∨ ∃ b o, a = some ⟨b, o, none⟩ ∧ b < w.heap.size ∧ ∀ j u, (Rr.rcs L)[j]? = some u → w.cell? ⟨b, o + j, none⟩ = some u) ∧ ∀ t ∈ L, RuIn K w t.1 t.2.1 t.2.2.1 t.2.2.2 := by
  obtain ⟨a', c', he, h1, h2, _, h3⟩ := h
  have ha : a = a' := by injection he
  have hn : n = rs.length := by injection he
  subst ha
  rcases h3 with h | ⟨b, o, ha, _, hb, hc⟩
  · subst h; exact ⟨[], rfl, Or.inl hn, by simp⟩
  · obtain ⟨L, q1, q2, q3⟩ := Rr.rows_of rs o hc
    exact ⟨L, q1, Or.inr ⟨b, o, ha, hb, q2⟩, q3⟩
theorem one_cells {w : World} {g : Nat} {t : Rr.Rw} {T : TypeId} (h : w.heap[g]? = some (.cells #[.int .i64 t.1.rank, .int .i64 t.1.cif.kind, .string (mk t.1.cif.lo), .string (mk t.1.cif.hi), .int .i64 t.1.cif.n, t.2.1, t.2.2.1, t.2.2.2] T (0, 0))) (j : Nat) (u : Value) (hj : (Rr.rcs [t])[j]? = some u) : w.cell? ⟨g, 0 + j, none⟩ = some u := by
  rw [Nat.zero_add, cell_of_row w g j _ _ (0, 0) h]
  match j, hj with
  | 0, hj => exact hj
  | 1, hj => exact hj
  | 2, hj => exact hj
  | 3, hj => exact hj
  | 4, hj => exact hj
  | 5, hj => exact hj
  | 6, hj => exact hj
  | 7, hj => exact hj
  | n + 8, hj => simp [Rr.rcs] at hj
theorem own_form {w : World} {B : Nat} {e : TypeId} {z : Nat} {v : Value} {n : Nat} {xs : List Value} (h : w.ownsRow B e z v n xs) : ∃ a m c, v = .slice a m c := by
  rcases h.2 with ⟨rfl, -⟩ | ⟨g, cap, cur, rfl, -⟩
  · exact ⟨_, _, _, rfl⟩
  · exact ⟨_, _, _, rfl⟩
theorem own_ge {w : World} {B : Nat} {e : TypeId} {z : Nat} {v : Value} {n : Nat} {xs : List Value} (h : w.ownsRow B e z v n xs) (b : Nat) (hb : v.ownBlock = some b) : B ≤ b := by
  rcases h.2 with ⟨rfl, -⟩ | ⟨g, cap, cur, rfl, hg, -⟩
  · cases hb
  · obtain rfl : g = b := Option.some.inj hb
    exact hg
theorem grow_below {w w' : World} {row : Option Nat} {B : Nat} (h : w.grownBy w' row) (hB : B ≤ w.heap.size) (hr : ∀ b, row = some b → B ≤ b) : Below B w w' :=
  ⟨h.os, h.tape, h.output, h.size, fun b hb => h.block b (Nat.lt_of_lt_of_le hb hB) (fun e => by have := hr b e.symm; omega)⟩
theorem own_set {w : World} {B q : Nat} {e : TypeId} {z : Nat} {v : Value} {n : Nat} {xs : List Value} (h : w.ownsRow B e z v n xs) (hq : q < B) (i : Nat) (u : Value) : (w.setCell ⟨q, i, none⟩ u).ownsRow B e z v n xs := by
  refine ⟨h.1, ?_⟩
  rcases h.2 with h0 | ⟨g, cap, cur, rfl, hB, hg, h1⟩
  · exact Or.inl h0
  · exact Or.inr ⟨g, cap, cur, rfl, hB, by rw [Below.heap_setCell _ _ _ _ (by simp; omega)]; exact hg, h1⟩
theorem grow_box {w w' : World} {v : Value} {B q : Nat} {e : TypeId} {z n : Nat} {xs : List Value} {o : Obj} (hg : w.grownBy w' v.ownBlock) (ho : w.ownsRow B e z v n xs) (hq : q < B) (h : w.heap[q]? = some o) : w'.heap[q]? = some o := by
  rw [hg.block q (Array.getElem?_eq_some_iff.1 h).1 (fun e => by have := own_ge ho q e.symm; omega)]
  exact h
theorem own_far {w w' : World} {B : Nat} {e : TypeId} {z : Nat} {v : Value} {n : Nat} {xs : List Value} (h : w.ownsRow B e z v n xs) (hb : Below w.heap.size w w') : w'.ownsRow B e z v n xs := by
  refine ⟨h.1, ?_⟩
  rcases h.2 with h0 | ⟨g, cap, cur, rfl, hB, hg, h1⟩
  · exact Or.inl h0
  · exact Or.inr ⟨g, cap, cur, rfl, hB, keepB hg hb, h1⟩
theorem ru_lo {K : Nat → Prop} {w W : World} {r : Ru} {k u s : Value} {q : Nat} (h : RuIn K w r k u s) (hb : Below w.heap.size w W) (hq : w.heap.size ≤ q) : RuIn (fun b => b < q) W r k u s := h.move ⟨hb.size, fun b hl _ => ⟨Nat.lt_of_lt_of_le hl hq, hb.block b hl⟩⟩
theorem bsix_soft {w : World} {q : Nat} {a0 a1 a2 a3 a4 a5 : Value} {T : TypeId} (h : w.heap[q]? = some (.cells #[a0, a1, a2, a3, a4, a5] T (0, 0))) (i : Nat) : w.frozen? ⟨q, i, none⟩ = false := Lib.frozen_of_heap h i
theorem set5 {w : World} {q : Nat} {a0 a1 a2 a3 a4 a5 : Value} {T : TypeId} (h : w.heap[q]? = some (.cells #[a0, a1, a2, a3, a4, a5] T (0, 0))) (v : Value) : (w.setCell ⟨q, 5, none⟩ v).heap[q]? = some (.cells #[a0, a1, a2, a3, a4, v] T (0, 0)) := heap_setCell_same w q 5 _ _ _ h
/-- A plan that may be, and is light, is printed. -/
theorem pr_ok {p : Pn} (h : planB p = true) (hc : cntP p ≤ 1300) : prE p = 0 ∧ prV p = prT p ∧ (prT p).length ≤ 65536 := by
  have h1 := planW_size h
  have h2 : (prT p).length ≤ szW (planW p) := by unfold prT; exact join_size _
  have hl : (prT p).length ≤ 65536 := by omega
  have hE : prE p = 0 := by unfold prE; rw [if_pos h, if_neg (by omega)]
  exact ⟨hE, by unfold prV; rw [if_pos hE], hl⟩
theorem join_text (p : Pn) (r : Ru) : mk (prT p) ++ (mk (prT (⟨0, 0, 0, 0, 0, [r]⟩ : Pn))).extract (mk (prT pn0)).size (mk (prT (⟨0, 0, 0, 0, 0, [r]⟩ : Pn))).size = mk (prT { p with rules := p.rules ++ [r] }) := by
  rw [Lib.extract_eq, mk_list, mk_size, mk_size, List.take_of_length_le (by rw [List.length_drop]; omega), ← text_joins p r]
  exact mk_cat _ _
theorem head_le (r : Ru) : (prT pn0).length ≤ (prT (⟨0, 0, 0, 0, 0, [r]⟩ : Pn)).length := by
  have e : prT (⟨0, 0, 0, 0, 0, [r]⟩ : Pn) = prT pn0 ++ 32 :: joinC 32 (ruleW r) := prT_more pn0 r
  rw [e, List.length_append]
  omega
end Go.Proofs.YtoibhgoaibjopaaGreatDoor.Pj
end

/-
  What the reference's Good answers, as contracts: for every int64.
-/
section
namespace Go.Proofs.YtoibhgoaibjopaaGreatDoor.Ce
open Go.RowKit

theorem rgood_any (a : Int) (w : World) :
    Calls Tryz.prog 20 #[.int .i64 a] w fun e w' => e = .returned (.bool (good a)) ∧ w' = w := by
  by_cases h0 : a < 0
  · have g : good a = false := (good_not a).2 (by omega)
    rw [g]
    go_enter Tryz.func20, Tryz.ntmps20
    go_wp2
    go_ret
    exact ⟨rfl, rfl⟩
  · by_cases h1 : 10000000000000 < a
    · have g : good a = false := (good_not a).2 (by omega)
      rw [g]
      go_enter Tryz.func20, Tryz.ntmps20
      go_wp2
      go_ret
      exact ⟨rfl, rfl⟩
    · have g : good a = true := (good_iff a).2 (by omega)
      rw [g]
      go_enter Tryz.func20, Tryz.ntmps20
      go_wp2
      go_ret
      exact ⟨rfl, rfl⟩

end Go.Proofs.YtoibhgoaibjopaaGreatDoor.Ce
end
