/-
  Rows of services that the call makes: what append leaves, whatever is appended.
-/
import Derived.Test.YtmgjnjbiljpneaaIMem
import Derived.Deep.AppendLies
import Derived.KernelRfl
set_option linter.unusedSimpArgs false
set_option linter.unusedVariables false
set_option maxRecDepth 100000
namespace Go.Proofs.Ytmgjnjbiljpneaa.Tw
open Go.RowKit
open Cm (Ln LnsAt LnCells below_alloc below_trans)

abbrev Rw := Ln × Value
def lcs : List Rw → List Value
  | [] => []
  | (x, m) :: t => .string (mk x.proc) :: m :: .int .i64 x.date :: .int .i64 x.units :: .int .i64 x.billed :: .int .i64 x.prior :: lcs t
abbrev l6 (t : Rw) : List Value := [.string (mk t.1.proc), t.2, .int .i64 t.1.date, .int .i64 t.1.units, .int .i64 t.1.billed, .int .i64 t.1.prior]
theorem lcs_cons (t : Rw) (l : List Rw) : lcs (t :: l) = l6 t ++ lcs l := rfl
theorem lcs_app (a b : List Rw) : lcs (a ++ b) = lcs a ++ lcs b := by induction a <;> simp_all [lcs]
theorem lcs_len (a : List Rw) : (lcs a).length = a.length * 6 := by induction a <;> simp_all [lcs]; omega
theorem lcs_at : ∀ (a : List Rw) (j : Nat) (t : Rw), a[j]? = some t → ∀ i, i < 6 → (lcs a)[j * 6 + i]? = (l6 t)[i]?
  | [], j, t, h, _, _ => by simp at h
  | (x, m) :: b, 0, t, h, i, hi => by
    simp at h; subst h
    match i, hi with
    | 0, _ => rfl
    | 1, _ => rfl
    | 2, _ => rfl
    | 3, _ => rfl
    | 4, _ => rfl
    | 5, _ => rfl
  | (x, m) :: b, j + 1, t, h, i, hi => by
    have := lcs_at b j t (by simpa using h) i hi
    rw [show (j + 1) * 6 + i = (j * 6 + i) + 6 by omega]
    simpa [lcs] using this
/-- The services' modifiers lie in memory. -/
def MsAt (w : World) (L : List Rw) : Prop := ∀ t ∈ L, TxAt All w t.2 t.1.mods
theorem MsAt.far {w w' : World} {L : List Rw} (h : MsAt w L) (hb : Below w.heap.size w w') : MsAt w' L := fun t ht => TxAt.move (h t ht) (Below.moves hb)
theorem MsAt.app {w : World} {L M : List Rw} (h : MsAt w L) (h' : MsAt w M) : MsAt w (L ++ M) := fun t ht => (List.mem_append.1 ht).elim (h t) (h' t)
theorem MsAt.nil (w : World) : MsAt w [] := fun t ht => by simp at ht
theorem rows_of {w : World} {b : Nat} : ∀ (rs : List Ln) (o : Nat), (∀ (j : Nat) x, rs[j]? = some x → ∃ m, LnCells w b (o + j * 6) x m ∧ TxAt All w m x.mods) →
    ∃ L : List Rw, L.map (·.1) = rs ∧ (∀ j u, (lcs L)[j]? = some u → w.cell? ⟨b, o + j, none⟩ = some u) ∧ MsAt w L
  | [], o, _ => ⟨[], rfl, by simp [lcs], by simp [MsAt]⟩
  | r :: rs, o, h => by
    obtain ⟨m, ⟨c0, c1, c2, c3, c4, c5⟩, hin⟩ := h 0 r rfl
    obtain ⟨L, h1, h2, h3⟩ := rows_of rs (o + 6) (fun j x hj => by
      obtain ⟨m, hc, hi⟩ := h (j + 1) x (by simpa using hj)
      exact ⟨m, by rw [show o + 6 + j * 6 = o + (j + 1) * 6 by omega]; exact hc, hi⟩)
    rw [Nat.zero_mul, Nat.add_zero] at c0 c1 c2 c3 c4 c5
    refine ⟨(r, m) :: L, by simp [h1], fun j v hj => ?_, fun t ht => ?_⟩
    · match j, hj with
      | 0, hj => rw [← Option.some.inj hj]; exact c0
      | 1, hj => rw [← Option.some.inj hj]; exact c1
      | 2, hj => rw [← Option.some.inj hj]; exact c2
      | 3, hj => rw [← Option.some.inj hj]; exact c3
      | 4, hj => rw [← Option.some.inj hj]; exact c4
      | 5, hj => rw [← Option.some.inj hj]; exact c5
      | n + 6, hj => rw [show o + (n + 6) = o + 6 + n by omega]; exact h2 n v hj
    · rcases List.mem_cons.1 ht with rfl | ht
      · exact hin
      · exact h3 t ht
/-- What lies behind a slice's address. -/
def CsAt (w : World) (a : Option Addr) (L : List Rw) : Prop := L.length = 0 ∨ ∃ b o, a = some ⟨b, o, none⟩ ∧ b < w.heap.size ∧ ∀ j u, (lcs L)[j]? = some u → w.cell? ⟨b, o + j, none⟩ = some u
theorem CsAt.far {w w' : World} {a : Option Addr} {L : List Rw} (h : CsAt w a L) (hb : Below w.heap.size w w') : CsAt w' a L := by
  refine h.imp id ?_
  rintro ⟨b, o, rfl, h1, h2⟩
  exact ⟨b, o, rfl, Nat.lt_of_lt_of_le h1 hb.size, fun j u hj => by rw [hb.cell (p := ⟨b, o + j, none⟩) h1]; exact h2 j u hj⟩
theorem lns_rows {w : World} {a : Option Addr} {n c : Nat} {l : List Ln} (h : LnsAt All w (.slice a n c) l) : ∃ L : List Rw, L.map (·.1) = l ∧ CsAt w a L ∧ MsAt w L := by
  obtain ⟨a', c', he, h1, h2, h3⟩ := h
  have ha : a = a' := by injection he
  subst ha
  rcases h3 with h | ⟨b, o, ha, _, hb, hc⟩
  · subst h; exact ⟨[], rfl, Or.inl rfl, MsAt.nil _⟩
  · obtain ⟨L, q1, q2, q3⟩ := rows_of l o hc
    exact ⟨L, q1, Or.inr ⟨b, o, ha, hb, q2⟩, q3⟩
theorem lcs_one {w : World} : ∀ (L : List Rw), MsAt w L → ∀ u ∈ lcs L, u.oneCell' = true
  | [], _, u, h => by simp [lcs] at h
  | (x, m) :: L, hi, u, h => by
    have ih := lcs_one L fun t ht => hi t (List.mem_cons_of_mem _ ht)
    obtain ⟨a1, c1, e1, -⟩ := Cm.TxAt.form (hi _ List.mem_cons_self)
    have e1 : m = .slice a1 x.mods.length c1 := e1
    clear hi
    simp only [lcs, List.mem_cons] at h
    rcases h with h | h | h | h | h | h | h
    all_goals first | exact ih u h | (rw [h]; rfl) | (rw [h, e1]; rfl)
/-- A row of services of the call's own. -/
def OwnL (B : Nat) (w : World) (v : Value) (L : List Rw) : Prop := w.ownsRow B 24 6 v L.length (lcs L)
theorem OwnL.nil (B : Nat) (w : World) : OwnL B w (.slice none 0 0) [] := World.ownsRow_nil _ _ _ _
theorem OwnL.far {B : Nat} {w w' : World} {v : Value} {L : List Rw} (h : OwnL B w v L) (hb : Below w.heap.size w w') : OwnL B w' v L := own_far h hb
theorem own_lns {B : Nat} {w : World} {v : Value} {L : List Rw} (h : OwnL B w v L) (hin : MsAt w L) : LnsAt All w v (L.map (·.1)) := by
  have hlen : (L.map (·.1)).length = L.length := by simp
  obtain ⟨hln, h⟩ := h
  rcases h with ⟨rfl, h0⟩ | ⟨g, cap, cur, rfl, hB, hg, h1, h2, hs, ht⟩
  · obtain rfl := List.length_eq_zero_iff.1 h0
    exact ⟨none, 0, rfl, by simp, by simp [maxLen], Or.inl rfl⟩
  · refine ⟨_, cap, by rw [hlen], by rw [hlen]; exact h1, h2, Or.inr ⟨g, 0, rfl, trivial, (Array.getElem?_eq_some_iff.1 hg).1, fun j x hj => ?_⟩⟩
    rw [List.getElem?_map] at hj
    cases hL : L[j]? with
    | none => rw [hL] at hj; cases hj
    | some t =>
      rw [hL] at hj
      obtain rfl := Option.some.inj hj
      have hjl : j < L.length := (List.getElem?_eq_some_iff.1 hL).1
      have e : ∀ i, i < 6 → w.cell? ⟨g, 0 + j * 6 + i, none⟩ = (l6 t)[i]? := fun i hi => by
        have q := lcs_at L j t hL i hi
        rw [← ht, List.getElem?_take, if_pos (by omega)] at q
        rw [cell_of_row w g _ cur _ (0, 0) hg, Nat.zero_add]
        simpa using q
      exact ⟨t.2, ⟨e 0 (by omega), e 1 (by omega), e 2 (by omega), e 3 (by omega), e 4 (by omega), e 5 (by omega)⟩, hin t (List.mem_of_getElem? hL)⟩
theorem infoL : ∃ i, Try.prog.info? 24 = some i ∧ i.zero = some (.agg #[.string ByteArray.empty, .slice none 0 0, .int .i64 0, .int .i64 0, .int .i64 0, .int .i64 0]) ∧ i.size = 6 ∧ i.bytes = 72 := by
  have hi : (Try.prog.info? 24).map (fun i => (i.zero, i.size, i.bytes)) = some (some (.agg #[.string ByteArray.empty, .slice none 0 0, .int .i64 0, .int .i64 0, .int .i64 0, .int .i64 0]), 6, 72) := by kernel_rfl
  cases hq : Try.prog.info? 24 with
  | none => rw [hq] at hi; cases hi
  | some i =>
    rw [hq] at hi
    simp only [Option.map_some, Option.some.injEq, Prod.mk.injEq] at hi
    exact ⟨i, rfl, hi⟩
theorem app0 {w : World} {B : Nat} (ty : Nat) (ad : Option Addr) (c : Nat) (v : Value) (n : Nat) (xs : List Value) (hown : w.ownsRow B 24 6 v n xs) : (Builtin.append_ #[26, 26] ty #[v, .slice ad 0 c]).run Try.prog w = .ok v w := by
  obtain ⟨i, q1, _, q2, _⟩ := infoL
  rcases hown.2 with ⟨rfl, rfl⟩ | ⟨g, cap, cur, rfl, _, _, hnc, _⟩
  · cases ad <;> simp [Builtin.append_, run_underlying Try.underlying26, sizeOf, typeInfo, q1, Builtin.lenOf, Builtin.firstCells, loadCells, loadCellsFrom]
  · cases ad <;> simp [Builtin.append_, run_underlying Try.underlying26, sizeOf, typeInfo, q1, Builtin.lenOf, Builtin.firstCells, hnc, storeCells, loadCells, loadCellsFrom]
/-- append(v, x...) over services, whatever x holds. -/
theorem app_ln {ops : Array Oper} {rest : List Oper} {o : Oper} {a : Act} {w : World} {Q : Exit → Act → World → Prop} (hgd : o.guard = none) (s x : Operand) (ho : o.op = .call { callee := .builtin .append, args := #[s, x], argTypes := #[26, 26] })
    (B : Nat) (v : Value) (L : List Rw) (hs : a.eval s = v) (hown : OwnL B w v L) (ad : Option Addr) (m c : Nat) (L2 : List Rw) (hx : a.eval x = .slice ad m c) (hm : m = L2.length)
    (hc : CsAt w ad L2) (h1 : MsAt w L2) (hbd : L.length + L2.length ≤ 1000000) (hB : B ≤ w.heap.size)
    (h : ∀ v' w', OwnL B w' v' (L ++ L2) → Below B w w' → wpList Try.prog ops Q rest (a.put o.dst v') w') : wpList Try.prog ops Q (o :: rest) a w := by
  refine wpList_plain hgd fun K hK => ?_
  by_cases hm0 : m = 0
  · subst hm0
    have e2 : L2 = [] := List.length_eq_zero_iff.1 hm.symm
    subst e2
    have hrun := app0 (w := w) o.type ad c v L.length (lcs L) hown
    have hh := hK _ _ (h v w (by rw [List.append_nil]; exact hown) (Below.refl _ _))
    unfold Oper.wp
    simp [execOp, ho, resolve, invoke, builtin, hs, hx, hrun, Result.andThen]
    exact hh
  · obtain ⟨b, o', rfl, -, hc2⟩ := hc.resolve_left (by omega)
    obtain ⟨i, q1, q2, q3, q4⟩ := infoL
    refine wp_append_lies w s x 26 ho B 24 i _ 6 72 Try.underlying26 q1 q2 q3 q4 rfl (by omega) v L.length (lcs L) hs hown ⟨b, o', none⟩ m c (lcs L2) hx (by rw [lcs_len, hm]) (fun j u hj => ?_) (lcs_one L2 h1) (by omega) (by unfold maxLen; omega) (by omega) hB w.heap.size rfl fun g cap w' hown' hg hat _ => ?_
    · have := hc2 j u hj
      rw [show (⟨b, o', none⟩ : Addr).add j = ⟨b, o' + j, none⟩ by unfold Addr.add; split <;> simp_all]
      exact this
    · refine hK _ _ (h _ w' (by unfold OwnL; rw [lcs_app, List.length_append, ← hm]; exact hown') (grow_low hown hg hB))
theorem cs_get {w : World} {a : Option Addr} {L : List Rw} (h : CsAt w a L) (j : Nat) (x : Ln) (m : Value) (hL : L[j]? = some (x, m)) : ∃ b o, a = some ⟨b, o, none⟩ ∧ b < w.heap.size ∧ LnCells w b (o + j * 6) x m := by
  have hj := (List.getElem?_eq_some_iff.1 hL).1
  obtain ⟨b, o, ha, hb, hc⟩ := h.resolve_left (by omega)
  have e : ∀ i, i < 6 → w.cell? ⟨b, o + j * 6 + i, none⟩ = (l6 (x, m))[i]? := fun i hi => by
    have q := lcs_at L j _ hL i hi
    have hi6 : (l6 (x, m))[i]? = some ((l6 (x, m))[i]'(by simpa using hi)) := List.getElem?_eq_getElem _
    rw [hi6] at q ⊢
    rw [Nat.add_assoc]
    exact hc _ _ q
  exact ⟨b, o, ha, hb, e 0 (by omega), e 1 (by omega), e 2 (by omega), e 3 (by omega), e 4 (by omega), e 5 (by omega)⟩
theorem rev_step (L : List Rw) (q : Nat) (t : Rw) (h : L[q]? = some t) : L.reverse.take (L.length - q) = L.reverse.take (L.length - (q + 1)) ++ [t] := by
  have hq := (List.getElem?_eq_some_iff.1 h).1
  have e : L.reverse[L.length - (q + 1)]? = some t := by
    rw [List.getElem?_reverse (by omega), show L.length - 1 - (L.length - (q + 1)) = q by omega]
    exact h
  rw [show L.length - q = L.length - (q + 1) + 1 by omega, List.take_add_one, e]
  rfl
/-- One service in a block of its own. -/
theorem cs_one {w : World} {g : Nat} {x : Ln} {m : Value} {T : TypeId} (h : w.heap[g]? = some (.cells #[.string (mk x.proc), m, .int .i64 x.date, .int .i64 x.units, .int .i64 x.billed, .int .i64 x.prior] T (0, 0))) : CsAt w (some ⟨g, 0, none⟩) [(x, m)] := by
  refine Or.inr ⟨g, 0, rfl, (Array.getElem?_eq_some_iff.1 h).1, fun j u hj => ?_⟩
  rw [cell_of_row w g _ _ _ (0, 0) h, Nat.zero_add]
  simpa [lcs] using hj
theorem lns_of {w : World} {g k : Nat} {L : List Rw} (h : CsAt w (some ⟨g, 0, none⟩) L) (hm : MsAt w L) (hk : k = L.length) (hl : L.length ≤ 1000000) : LnsAt All w (.slice (some ⟨g, 0, none⟩) k k) (L.map (·.1)) := by
  have hlen : (L.map (·.1)).length = L.length := by simp
  subst hk
  refine ⟨_, L.length, by rw [hlen], by rw [hlen]; exact Nat.le_refl _, by unfold maxLen; omega, ?_⟩
  rcases h with h | ⟨b, o, he, hb, hc⟩
  · exact Or.inl (by rw [List.length_eq_zero_iff.1 h]; rfl)
  · refine Or.inr ⟨b, o, he, trivial, hb, fun j x hj => ?_⟩
    rw [List.getElem?_map] at hj
    cases hL : L[j]? with
    | none => rw [hL] at hj; cases hj
    | some t =>
      rw [hL] at hj
      obtain rfl := Option.some.inj hj
      have e : ∀ i, i < 6 → w.cell? ⟨b, o + j * 6 + i, none⟩ = (l6 t)[i]? := fun i hi => by
        have q := lcs_at L j t hL i hi
        have hi6 : (l6 t)[i]? = some ((l6 t)[i]'(by simpa using hi)) := List.getElem?_eq_getElem _
        rw [hi6] at q ⊢
        rw [Nat.add_assoc]
        exact hc _ _ q
      exact ⟨t.2, ⟨e 0 (by omega), e 1 (by omega), e 2 (by omega), e 3 (by omega), e 4 (by omega), e 5 (by omega)⟩, hm t (List.mem_of_getElem? hL)⟩
theorem cs_two {w : World} {g : Nat} {x y : Ln} {m n : Value} {T : TypeId} (h : w.heap[g]? = some (.cells #[.string (mk x.proc), m, .int .i64 x.date, .int .i64 x.units, .int .i64 x.billed, .int .i64 x.prior, .string (mk y.proc), n, .int .i64 y.date, .int .i64 y.units, .int .i64 y.billed, .int .i64 y.prior] T (0, 0))) : CsAt w (some ⟨g, 0, none⟩) [(x, m), (y, n)] := by
  refine Or.inr ⟨g, 0, rfl, (Array.getElem?_eq_some_iff.1 h).1, fun j u hj => ?_⟩
  rw [cell_of_row w g _ _ _ (0, 0) h, Nat.zero_add]
  simpa [lcs] using hj
end Go.Proofs.Ytmgjnjbiljpneaa.Tw
