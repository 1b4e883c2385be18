/-
  Reading byte by byte: the rows that grow, in memory; what an append and a store leave.
-/
import Derived.Test.YtjidoificijcfaaDoorQRead
namespace Go.Proofs.YtjidoificijcfaaDoor
open Go.RowKit

def KK (ov gv pv : Value) (gb b : Nat) : Prop := ov.ownBlock ≠ some b ∧ gv.ownBlock ≠ some b ∧ pv.ownBlock ≠ some b ∧ b ≠ gb
/-- Segments in a row ov, the next one's elements in a row gv that a box holds, the next one's parts in a row pv. -/
structure St (B gb : Nat) (G : List Sg) (E : Sg) (Ps : List Tx) (ov gv pv : Value) (ocs gcs pcs : List Value) (w : World) : Prop where
  box : w.heap[gb]? = some (.cells #[gv] 40 (0, 0))
  apart : ov.ownBlock ≠ some gb
  low : B ≤ gb
  oG : w.ownsRow B 40 1 ov G.length ocs
  oE : w.ownsRow B 41 1 gv E.length gcs
  oP : w.ownsRow B 9 1 pv Ps.length pcs
  fG : ∀ (j : Nat) g, G[j]? = some g → ∃ u, ocs[j]? = some u ∧ ElAt (KK ov gv pv gb) w u g
  fE : ∀ (j : Nat) ps, E[j]? = some ps → ∃ u, gcs[j]? = some u ∧ TxAt (KK ov gv pv gb) w u ps
  fP : ∀ (j : Nat) x, Ps[j]? = some x → pcs[j]? = some (.string (_root_.Go.Proofs.YtjidoificijcfaaDoor.mk x))

theorem own_apart {w : World} {B : Nat} {e1 e2 : TypeId} {v1 v2 : Value} {n1 n2 : Nat} {x1 x2 : List Value} (h1 : w.ownsRow B e1 1 v1 n1 x1) (h2 : w.ownsRow B e2 1 v2 n2 x2) (hne : e1 ≠ e2) {b : Nat} (hb : v1.ownBlock = some b) : v2.ownBlock ≠ some b := by
  intro hb2
  rcases h1.2 with ⟨rfl, _⟩ | ⟨g, c, cur, rfl, _, hg, _⟩
  · cases hb
  · rcases h2.2 with ⟨rfl, _⟩ | ⟨g', c', cur', rfl, _, hg', _⟩
    · cases hb2
    · simp only [Value.ownBlock, Option.some.injEq] at hb hb2
      subst hb hb2
      rw [hg] at hg'
      simp only [Option.some.injEq, Obj.cells.injEq] at hg'
      exact hne hg'.2.1
theorem own_box {w : World} {B : Nat} {e T : TypeId} {v : Value} {n : Nat} {xs : List Value} {b : Nat} {cs : Array Value} (h : w.ownsRow B e 1 v n xs) (hb : w.heap[b]? = some (.cells cs T (0, 0))) (hne : T ≠ e) : v.ownBlock ≠ some b := Lib.ownBlock_ne h hb hne
theorem or_ne {v r : Option Nat} (h : ∀ b, v = some b → r ≠ some b) : v = none ∨ v ≠ r := by
  cases v with
  | none => exact Or.inl rfl
  | some b => exact Or.inr fun e => h b rfl e.symm
theorem own_lt {w : World} {B : Nat} {e : TypeId} {v : Value} {n : Nat} {xs : List Value} (h : w.ownsRow B e 1 v n xs) {b : Nat} (hb : v.ownBlock = some b) : b < w.heap.size := (h.lt b hb).2

section
variable {B gb : Nat} {G : List Sg} {E : Sg} {Ps : List Tx} {ov gv pv : Value} {ocs gcs pcs : List Value} {w w' : World}
theorem St.lt (h : St B gb G E Ps ov gv pv ocs gcs pcs w) : gb < w.heap.size := (Array.getElem?_eq_some_iff.1 h.box).1
/-- What leaves all blocks leaves it. -/
theorem St.grw (h : St B gb G E Ps ov gv pv ocs gcs pcs w) (hb : Below w.heap.size w w') : St B gb G E Ps ov gv pv ocs gcs pcs w' := by
  have hg : w.grownBy w' none := ⟨hb.os, hb.tape, hb.output, hb.size, fun k hk _ => hb.block k hk⟩
  have hm : Moves (KK ov gv pv gb) (KK ov gv pv gb) w w' := ⟨hb.size, fun b hb' hk => ⟨hk, hb.block b hb'⟩⟩
  refine ⟨by rw [hb.block gb h.lt]; exact h.box, h.apart, h.low, h.oG.kept hg (or_ne fun b _ => by simp), h.oE.kept hg (or_ne fun b _ => by simp), h.oP.kept hg (or_ne fun b _ => by simp), fun j g hj => ?_, fun j ps hj => ?_, h.fP⟩
  · obtain ⟨u, hu, he⟩ := h.fG j g hj
    exact ⟨u, hu, ElAt.move he hm⟩
  · obtain ⟨u, hu, he⟩ := h.fE j ps hj
    exact ⟨u, hu, TxAt.move he hm⟩
theorem snoc_get {α β : Type} {R : α → β → Prop} {xs : List α} {us : List β} {x : α} {u : β} (hl : us.length = xs.length) (h : ∀ (j : Nat) y, xs[j]? = some y → ∃ v, us[j]? = some v ∧ R y v) (hx : R x u) : ∀ (j : Nat) y, (xs ++ [x])[j]? = some y → ∃ v, (us ++ [u])[j]? = some v ∧ R y v := by
  intro j y hj
  rcases Nat.lt_or_ge j xs.length with hlt | hge
  · rw [List.getElem?_append_left hlt] at hj
    obtain ⟨v, hv, hr⟩ := h j y hj
    exact ⟨v, by rw [List.getElem?_append_left (by omega)]; exact hv, hr⟩
  · rw [List.getElem?_append_right hge] at hj
    have h0 : j = xs.length := by
      have := (List.getElem?_eq_some_iff.1 hj).1
      simp at this; omega
    subst h0
    simp at hj
    subst hj
    exact ⟨u, by rw [List.getElem?_append_right (by omega), hl]; simp, hx⟩

/-- A part more. -/
theorem St.part (h : St B gb G E Ps ov gv pv ocs gcs pcs w) {x : Tx} {pv' : Value} (ho : w'.ownsRow B 9 1 pv' (Ps.length + 1) (pcs ++ [.string (_root_.Go.Proofs.YtjidoificijcfaaDoor.mk x)])) (hg : w.grownBy w' pv.ownBlock) (hat : pv'.ownBlock = pv.ownBlock ∨ pv'.ownBlock = some w.heap.size) : St B gb G E (Ps ++ [x]) ov gv pv' ocs gcs (pcs ++ [.string (_root_.Go.Proofs.YtjidoificijcfaaDoor.mk x)]) w' := by
  have hm : Moves (KK ov gv pv gb) (KK ov gv pv' gb) w w' := moves_grown hg fun b hb hk => ⟨⟨hk.1, hk.2.1, by
    rcases hat with e | e
    · rw [e]; exact hk.2.2.1
    · rw [e]; intro e2; have := Option.some.inj e2; omega, hk.2.2.2⟩, Ne.symm hk.2.2.1⟩
  have hpl : pcs.length = Ps.length := by have := h.oP.1; omega
  refine ⟨?_, h.apart, h.low, h.oG.kept hg (or_ne fun b hb => own_apart h.oG h.oP (by decide) hb), h.oE.kept hg (or_ne fun b hb => own_apart h.oE h.oP (by decide) hb), by rw [List.length_append]; exact ho, fun j g hj => ?_, fun j ps hj => ?_, fun j y hj => ?_⟩
  · rw [hg.block gb h.lt (Ne.symm (own_box h.oP h.box (by decide)))]; exact h.box
  · obtain ⟨u, hu, he⟩ := h.fG j g hj
    exact ⟨u, hu, ElAt.move he hm⟩
  · obtain ⟨u, hu, he⟩ := h.fE j ps hj
    exact ⟨u, hu, TxAt.move he hm⟩
  · obtain ⟨v, hv, rfl⟩ := snoc_get (R := fun (y : Tx) (v : Value) => v = .string (_root_.Go.Proofs.YtjidoificijcfaaDoor.mk y)) (us := pcs) (x := x) (u := .string (_root_.Go.Proofs.YtjidoificijcfaaDoor.mk x)) hpl (fun j y hy => ⟨_, h.fP j y hy, rfl⟩) rfl j y hj
    exact hv
/-- The parts are an element more; the box holds the longer row. -/
theorem St.elem (h : St B gb G E Ps ov gv pv ocs gcs pcs w) {gv' : Value} (ho : w'.ownsRow B 41 1 gv' (E.length + 1) (gcs ++ [pv])) (hg : w.grownBy w' gv.ownBlock) (hat : gv'.ownBlock = gv.ownBlock ∨ gv'.ownBlock = some w.heap.size) : St B gb G (E ++ [Ps]) [] ov gv' (.slice none 0 0) ocs (gcs ++ [pv]) [] (w'.setCell ⟨gb, 0, none⟩ gv') := by
  have hgbw : w'.heap[gb]? = some (.cells #[gv] 40 (0, 0)) := by rw [hg.block gb h.lt (Ne.symm (own_box h.oE h.box (by decide)))]; exact h.box
  have hgl : gb < w'.heap.size := (Array.getElem?_eq_some_iff.1 hgbw).1
  have hs : w'.grownBy (w'.setCell ⟨gb, 0, none⟩ gv') (some gb) := ⟨rfl, rfl, rfl, by simp [World.setCell], fun k _ hk => Below.heap_setCell _ _ _ _ (fun e => hk (by rw [show k = gb from e]))⟩
  have hne : ∀ b, b < w.heap.size → gv.ownBlock ≠ some b → gv'.ownBlock ≠ some b := fun b hb hk => by
    rcases hat with e | e
    · rw [e]; exact hk
    · rw [e]; intro e2; have := Option.some.inj e2; omega
  have hm : Moves (fun b => ov.ownBlock ≠ some b ∧ gv.ownBlock ≠ some b ∧ b ≠ gb) (KK ov gv' (.slice none 0 0) gb) w (w'.setCell ⟨gb, 0, none⟩ gv') :=
    Moves.trans (K' := KK ov gv' (.slice none 0 0) gb) (moves_grown hg fun b hb hk => ⟨⟨hk.1, hne b hb hk.2.1, by simp [Value.ownBlock], hk.2.2⟩, Ne.symm hk.2.1⟩) (moves_grown hs fun b hb hk => ⟨hk, fun e => hk.2.2.2 (Option.some.inj e)⟩)
  have hm1 : Moves (KK ov gv pv gb) (KK ov gv' (.slice none 0 0) gb) w (w'.setCell ⟨gb, 0, none⟩ gv') := ⟨hm.1, fun b hb hk => hm.2 b hb ⟨hk.1, hk.2.1, hk.2.2.2⟩⟩
  have hel : gcs.length = E.length := by have := h.oE.1; omega
  have hP : TxAt (KK ov gv' (.slice none 0 0) gb) (w'.setCell ⟨gb, 0, none⟩ gv') pv Ps := by
    refine TxAt.move (K := fun b => ov.ownBlock ≠ some b ∧ gv.ownBlock ≠ some b ∧ b ≠ gb) ?_ hm
    refine row_of_own h.oP (fun b hb => ⟨own_apart h.oP h.oG (by decide) hb, own_apart h.oP h.oE (by decide) hb, fun e => ?_⟩) fun j u y hu hy => ?_
    · subst e; exact own_box h.oP h.box (by decide) hb
    · rw [h.fP j y hy] at hu
      exact (Option.some.inj hu).symm
  refine ⟨?_, h.apart, h.low, ?_, ?_, World.ownsRow_nil _ _ _ _, fun j g hj => ?_, ?_, fun j x hj => by simp at hj⟩
  · rw [heap_set hgbw]; rfl
  · exact (h.oG.kept hg (or_ne fun b hb => own_apart h.oG h.oE (by decide) hb)).kept hs (or_ne fun b hb e => h.apart (by rw [hb, ← e]))
  · rw [List.length_append]
    exact World.ownsRow.kept ho hs (or_ne fun b hb e => by
      have h1 := Lib.ownBlock_ne ho hgbw (by decide)
      rw [hb, ← e] at h1
      exact h1 rfl)
  · obtain ⟨u, hu, he⟩ := h.fG j g hj
    exact ⟨u, hu, ElAt.move he hm1⟩
  · exact snoc_get (R := fun ps u => TxAt (KK ov gv' (.slice none 0 0) gb) (w'.setCell ⟨gb, 0, none⟩ gv') u ps) hel (fun j ps hj => by
      obtain ⟨u, hu, he⟩ := h.fE j ps hj
      exact ⟨u, hu, TxAt.move he hm1⟩) hP
/-- The elements are a segment more; the box is emptied. -/
theorem St.seg (h : St B gb G E [] ov gv (.slice none 0 0) ocs gcs pcs w) {ov' : Value} (ho : w'.ownsRow B 40 1 ov' (G.length + 1) (ocs ++ [gv])) (hg : w.grownBy w' ov.ownBlock) (hat : ov'.ownBlock = ov.ownBlock ∨ ov'.ownBlock = some w.heap.size) : St B gb (G ++ [E]) [] [] ov' (.slice none 0 0) (.slice none 0 0) (ocs ++ [gv]) [] [] (w'.setCell ⟨gb, 0, none⟩ (.slice none 0 0)) := by
  have hgbw : w'.heap[gb]? = some (.cells #[gv] 40 (0, 0)) := by rw [hg.block gb h.lt (Ne.symm h.apart)]; exact h.box
  have hs : w'.grownBy (w'.setCell ⟨gb, 0, none⟩ (.slice none 0 0)) (some gb) := ⟨rfl, rfl, rfl, by simp [World.setCell], fun k _ hk => Below.heap_setCell _ _ _ _ (fun e => hk (by rw [show k = gb from e]))⟩
  have hne : ∀ b, b < w.heap.size → ov.ownBlock ≠ some b → ov'.ownBlock ≠ some b := fun b hb hk => by
    rcases hat with e | e
    · rw [e]; exact hk
    · rw [e]; intro e2; have := Option.some.inj e2; omega
  have hm : Moves (fun b => ov.ownBlock ≠ some b ∧ b ≠ gb) (KK ov' (.slice none 0 0) (.slice none 0 0) gb) w (w'.setCell ⟨gb, 0, none⟩ (.slice none 0 0)) :=
    Moves.trans (K' := KK ov' (.slice none 0 0) (.slice none 0 0) gb) (moves_grown hg fun b hb hk => ⟨⟨hne b hb hk.1, by simp [Value.ownBlock], by simp [Value.ownBlock], hk.2⟩, Ne.symm hk.1⟩) (moves_grown hs fun b hb hk => ⟨hk, fun e => hk.2.2.2 (Option.some.inj e)⟩)
  have hm1 : Moves (KK ov gv (.slice none 0 0) gb) (KK ov' (.slice none 0 0) (.slice none 0 0) gb) w (w'.setCell ⟨gb, 0, none⟩ (.slice none 0 0)) := ⟨hm.1, fun b hb hk => hm.2 b hb ⟨hk.1, hk.2.2.2⟩⟩
  have hgl : ocs.length = G.length := by have := h.oG.1; omega
  have hE : ElAt (KK ov' (.slice none 0 0) (.slice none 0 0) gb) (w'.setCell ⟨gb, 0, none⟩ (.slice none 0 0)) gv E := by
    refine ElAt.move (K := fun b => ov.ownBlock ≠ some b ∧ b ≠ gb) ?_ hm
    refine row_of_own h.oE (fun b hb => ⟨own_apart h.oE h.oG (by decide) hb, fun e => ?_⟩) fun j u y hu hy => ?_
    · subst e; exact own_box h.oE h.box (by decide) hb
    · obtain ⟨u', hu', ht⟩ := h.fE j y hy
      rw [hu] at hu'
      obtain rfl := Option.some.inj hu'
      exact TxAt.move ht (moves_weak w fun b _ hk => ⟨hk.1, hk.2.2.2⟩)
  refine ⟨?_, ?_, h.low, ?_, World.ownsRow_nil _ _ _ _, World.ownsRow_nil _ _ _ _, ?_, fun j x hj => by simp at hj, fun j x hj => by simp at hj⟩
  · rw [heap_set hgbw]; rfl
  · exact hne gb h.lt h.apart
  · rw [List.length_append]
    exact World.ownsRow.kept ho hs (or_ne fun b hb e => hne gb h.lt h.apart (by rw [hb, ← e]))
  · exact snoc_get (R := fun g u => ElAt (KK ov' (.slice none 0 0) (.slice none 0 0) gb) (w'.setCell ⟨gb, 0, none⟩ (.slice none 0 0)) u g) hgl (fun j g hj => by
      obtain ⟨u, hu, he⟩ := h.fG j g hj
      exact ⟨u, hu, ElAt.move he hm1⟩) hE
theorem St.segs (h : St B gb G E Ps ov gv pv ocs gcs pcs w) : SgAt All w ov G := by
  refine row_of_own h.oG (fun _ _ => trivial) fun j u y hu hy => ?_
  obtain ⟨u', hu', he⟩ := h.fG j y hy
  rw [hu] at hu'
  obtain rfl := Option.some.inj hu'
  exact ElAt.move he (moves_weak w fun _ _ _ => trivial)
theorem St.els (h : St B gb G E Ps ov gv pv ocs gcs pcs w) : ElAt All w gv E := by
  refine row_of_own h.oE (fun _ _ => trivial) fun j u y hu hy => ?_
  obtain ⟨u', hu', he⟩ := h.fE j y hy
  rw [hu] at hu'
  obtain rfl := Option.some.inj hu'
  exact TxAt.move he (moves_weak w fun _ _ _ => trivial)
end
end Go.Proofs.YtjidoificijcfaaDoor
