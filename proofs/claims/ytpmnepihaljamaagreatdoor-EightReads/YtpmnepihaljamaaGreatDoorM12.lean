/-
  Texts put together (merge.py): QRMath, QRMem.
-/
import Derived.Test.YtpmnepihaljamaaGreatDoorM11
/-
  Reading byte by byte, over plain lists: what each byte does.
-/
section
namespace Go.Proofs.YtpmnepihaljamaaGreatDoor

def curS (s : UInt8) (l : Tx) (i : Nat) : Tx := las s (l.take i)
def curE (e s : UInt8) (l : Tx) (i : Nat) : Tx := las e (curS s l i)
def curP (e p s : UInt8) (l : Tx) (i : Nat) : Tx := las p (curE e s l i)
def stG (e p s : UInt8) (l : Tx) (i : Nat) : List Sg := (ini s (l.take i)).map (parse e p)
def stE (e p s : UInt8) (l : Tx) (i : Nat) : Sg := (ini e (curS s l i)).map (splitC p)
def stP (e p s : UInt8) (l : Tx) (i : Nat) : List Tx := ini p (curE e s l i)

theorem st_zero (e p s : UInt8) (l : Tx) : stG e p s l 0 = [] ∧ stE e p s l 0 = [] ∧ stP e p s l 0 = [] ∧ curP e p s l 0 = [] ∧ curS s l 0 = [] := by
  refine ⟨?_, ?_, ?_, ?_, ?_⟩ <;> simp [stG, stE, stP, curP, curE, curS, ini_nil]
theorem print_snoc (l : Tx) (c : UInt8) : printB (l ++ [c]) = (printB l && prn c) := by simp [printB]
theorem st_other {e p s c : UInt8} {l : Tx} {i : Nat} (hx : l.take (i + 1) = l.take i ++ [c]) (he : c ≠ e) (hp : c ≠ p) (hs : c ≠ s) :
    stG e p s l (i + 1) = stG e p s l i ∧ stE e p s l (i + 1) = stE e p s l i ∧ stP e p s l (i + 1) = stP e p s l i ∧ curP e p s l (i + 1) = curP e p s l i ++ [c] ∧ curS s l (i + 1) = curS s l i ++ [c] ∧ ini s (l.take (i + 1)) = ini s (l.take i) := by
  obtain ⟨a1, a2⟩ := snoc_ne s c (l.take i) hs
  have h2 : curS s l (i + 1) = curS s l i ++ [c] := by unfold curS; rw [hx]; exact a2
  obtain ⟨b1, b2⟩ := snoc_ne e c (curS s l i) he
  have h3 : curE e s l (i + 1) = curE e s l i ++ [c] := by unfold curE; rw [h2]; exact b2
  obtain ⟨c1, c2⟩ := snoc_ne p c (curE e s l i) hp
  refine ⟨by unfold stG; rw [hx, a1], by unfold stE; rw [h2, b1], by unfold stP; rw [h3, c1], by unfold curP; rw [h3]; exact c2, h2, by rw [hx, a1]⟩
theorem st_part {e p s : UInt8} {l : Tx} {i : Nat} (hx : l.take (i + 1) = l.take i ++ [p]) (he : p ≠ e) (hs : p ≠ s) :
    stG e p s l (i + 1) = stG e p s l i ∧ stE e p s l (i + 1) = stE e p s l i ∧ stP e p s l (i + 1) = stP e p s l i ++ [curP e p s l i] ∧ curP e p s l (i + 1) = [] ∧ curS s l (i + 1) = curS s l i ++ [p] ∧ ini s (l.take (i + 1)) = ini s (l.take i) := by
  obtain ⟨a1, a2⟩ := snoc_ne s p (l.take i) hs
  have h2 : curS s l (i + 1) = curS s l i ++ [p] := by unfold curS; rw [hx]; exact a2
  obtain ⟨b1, b2⟩ := snoc_ne e p (curS s l i) he
  have h3 : curE e s l (i + 1) = curE e s l i ++ [p] := by unfold curE; rw [h2]; exact b2
  obtain ⟨c1, c2⟩ := snoc_eq p (curE e s l i)
  refine ⟨by unfold stG; rw [hx, a1], by unfold stE; rw [h2, b1], by unfold stP; rw [h3, c1]; rfl, by unfold curP; rw [h3]; exact c2, h2, by rw [hx, a1]⟩
theorem st_elem {e p s : UInt8} {l : Tx} {i : Nat} (hx : l.take (i + 1) = l.take i ++ [e]) (hs : e ≠ s) :
    stG e p s l (i + 1) = stG e p s l i ∧ stE e p s l (i + 1) = stE e p s l i ++ [stP e p s l i ++ [curP e p s l i]] ∧ stP e p s l (i + 1) = [] ∧ curP e p s l (i + 1) = [] ∧ curS s l (i + 1) = curS s l i ++ [e] ∧ ini s (l.take (i + 1)) = ini s (l.take i) := by
  obtain ⟨a1, a2⟩ := snoc_ne s e (l.take i) hs
  have h2 : curS s l (i + 1) = curS s l i ++ [e] := by unfold curS; rw [hx]; exact a2
  obtain ⟨b1, b2⟩ := snoc_eq e (curS s l i)
  have h3 : curE e s l (i + 1) = [] := by unfold curE; rw [h2]; exact b2
  have h4 : splitC p (curE e s l i) = stP e p s l i ++ [curP e p s l i] := split_ini p _
  refine ⟨by unfold stG; rw [hx, a1], ?_, by unfold stP; rw [h3]; rfl, by unfold curP; rw [h3]; rfl, h2, by rw [hx, a1]⟩
  unfold stE
  rw [h2, b1, List.map_append, ← h4]
  rfl
theorem parse_cur (e p s : UInt8) (l : Tx) (i : Nat) : parse e p (curS s l i) = stE e p s l i ++ [stP e p s l i ++ [curP e p s l i]] := by
  have h4 : splitC p (curE e s l i) = stP e p s l i ++ [curP e p s l i] := split_ini p _
  unfold parse stE
  rw [split_ini e (curS s l i), List.map_append, ← h4]
  rfl
theorem st_seg {e p s : UInt8} {l : Tx} {i : Nat} (hx : l.take (i + 1) = l.take i ++ [s]) :
    stG e p s l (i + 1) = stG e p s l i ++ [stE e p s l i ++ [stP e p s l i ++ [curP e p s l i]]] ∧ stE e p s l (i + 1) = [] ∧ stP e p s l (i + 1) = [] ∧ curP e p s l (i + 1) = [] ∧ curS s l (i + 1) = [] ∧ ini s (l.take (i + 1)) = ini s (l.take i) ++ [curS s l i] := by
  obtain ⟨a1, a2⟩ := snoc_eq s (l.take i)
  have h2 : curS s l (i + 1) = [] := by unfold curS; rw [hx]; exact a2
  have h3 : curE e s l (i + 1) = [] := by unfold curE; rw [h2]; rfl
  have h5 : ini s (l.take (i + 1)) = ini s (l.take i) ++ [curS s l i] := by rw [hx, a1]; rfl
  refine ⟨?_, by unfold stE; rw [h2]; rfl, by unfold stP; rw [h3]; rfl, by unfold curP; rw [h3]; rfl, h2, h5⟩
  unfold stG
  rw [h5, List.map_append, ← parse_cur]
  rfl
theorem cut_at (l : Tx) (i : Nat) (c : UInt8) (hx : l[i]? = some c) : l = l.take i ++ c :: l.drop (i + 1) := by
  have hi := (List.getElem?_eq_some_iff.1 hx).1
  conv => lhs; rw [← List.take_append_drop i l, List.drop_eq_getElem_cons hi]
  congr 2
  exact Option.some.inj ((List.getElem?_eq_getElem hi).symm.trans hx)
theorem rd_limit {e p s : UInt8} {l : Tx} {i : Nat} {c : UInt8} (hx : l[i]? = some c) (hl : l.getLast? = some s) (h0 : rdE e p 0 (ini s (l.take i)) = 0) (hn : (ini s (l.take i)).length = 4096) : rdE e p 0 (ini s l) = 10 := by
  have hc := cut_at l i c hx
  have hm : s ∈ c :: l.drop (i + 1) := by
    have h1 : (c :: l.drop (i + 1)).getLast? = some s := by
      rw [hc, List.getLast?_append] at hl
      cases h2 : (c :: l.drop (i + 1)).getLast? with
      | none => simp at h2
      | some z => rw [h2] at hl; simpa using hl
    exact List.mem_of_getLast? h1
  obtain ⟨t, r, h⟩ := ini_more s (l.take i) _ hm
  conv => lhs; rw [hc]
  rw [h, rd_append e p _ _ 0 h0, hn]
  rfl
theorem rd_wrong {e p s : UInt8} {l : Tx} {i : Nat} (hx : l[i]? = some s) (h0 : rdE e p 0 (ini s (l.take i)) = 0) (hn : (ini s (l.take i)).length ≠ 4096) (hb : printB (curS s l i) = false ∨ namedB (parse e p (curS s l i)) = false) : rdE e p 0 (ini s l) = 4 := by
  have hc := cut_at l i s hx
  conv => lhs; rw [hc]
  rw [ini_app, split_ini s (l.take i), List.append_assoc, rd_append e p _ _ 0 h0, Nat.zero_add]
  show rdE e p _ (curS s l i :: _) = 4
  rw [rdE, if_neg hn]
  split
  · rfl
  · next h1 =>
    rcases hb with hb | hb
    · exact absurd hb h1
    · rw [if_pos hb]
theorem rd_next {e p s : UInt8} {l : Tx} {i : Nat} (h0 : rdE e p 0 (ini s (l.take i)) = 0) (hn : (ini s (l.take i)).length ≠ 4096) (h1 : printB (curS s l i) = true) (h2 : namedB (parse e p (curS s l i)) = true) : rdE e p 0 (ini s (l.take i) ++ [curS s l i]) = 0 := by
  rw [rd_append e p _ _ 0 h0, Nat.zero_add, rdE, if_neg hn, h1, h2]
  rfl
theorem byte_at' (t : ByteArray) (i : Nat) (h : i < t.size) : t.data.toList[i]? = some t[i] := by
  rw [List.getElem?_eq_getElem (by rw [← Lib.size_eq]; exact h)]
  rfl
theorem mid_snoc (t : ByteArray) (f i : Nat) (h : i < t.size) (hf : f ≤ i) : (t.data.toList.drop f).take (i + 1 - f) = (t.data.toList.drop f).take (i - f) ++ [t[i]] := by
  have hb := byte_at' t i h
  rw [show i + 1 - f = (i - f) + 1 by omega, List.take_add_one, List.getElem?_drop, show f + (i - f) = i by omega, hb]
  rfl
end Go.Proofs.YtpmnepihaljamaaGreatDoor
end

/-
  Reading byte by byte: the rows that grow, in memory; what an append and a store leave.
-/
section
namespace Go.Proofs.YtpmnepihaljamaaGreatDoor
open Go.RowKit

def KK (ov gv pv : Value) (gb b : Nat) : Prop := ov.ownBlock ≠ some b ∧ gv.ownBlock ≠ some b ∧ pv.ownBlock ≠ some b ∧ b ≠ gb
/-- Segments in a row ov, the next one's elements in a row gv that a box holds, the next one's parts in a row pv. -/
structure St (B gb : Nat) (G : List Sg) (E : Sg) (Ps : List Tx) (ov gv pv : Value) (ocs gcs pcs : List Value) (w : World) : Prop where
  box : w.heap[gb]? = some (.cells #[gv] 50 (0, 0))
  apart : ov.ownBlock ≠ some gb
  low : B ≤ gb
  oG : w.ownsRow B 50 1 ov G.length ocs
  oE : w.ownsRow B 45 1 gv E.length gcs
  oP : w.ownsRow B 9 1 pv Ps.length pcs
  fG : ∀ (j : Nat) g, G[j]? = some g → ∃ u, ocs[j]? = some u ∧ ElAt (KK ov gv pv gb) w u g
  fE : ∀ (j : Nat) ps, E[j]? = some ps → ∃ u, gcs[j]? = some u ∧ TxAt (KK ov gv pv gb) w u ps
  fP : ∀ (j : Nat) x, Ps[j]? = some x → pcs[j]? = some (.string (_root_.Go.Proofs.YtpmnepihaljamaaGreatDoor.mk x))

theorem own_apart {w : World} {B : Nat} {e1 e2 : TypeId} {v1 v2 : Value} {n1 n2 : Nat} {x1 x2 : List Value} (h1 : w.ownsRow B e1 1 v1 n1 x1) (h2 : w.ownsRow B e2 1 v2 n2 x2) (hne : e1 ≠ e2) {b : Nat} (hb : v1.ownBlock = some b) : v2.ownBlock ≠ some b := by
  intro hb2
  rcases h1.2 with ⟨rfl, _⟩ | ⟨g, c, cur, rfl, _, hg, _⟩
  · cases hb
  · rcases h2.2 with ⟨rfl, _⟩ | ⟨g', c', cur', rfl, _, hg', _⟩
    · cases hb2
    · simp only [Value.ownBlock, Option.some.injEq] at hb hb2
      subst hb hb2
      rw [hg] at hg'
      simp only [Option.some.injEq, Obj.cells.injEq] at hg'
      exact hne hg'.2.1
theorem own_box {w : World} {B : Nat} {e T : TypeId} {v : Value} {n : Nat} {xs : List Value} {b : Nat} {cs : Array Value} (h : w.ownsRow B e 1 v n xs) (hb : w.heap[b]? = some (.cells cs T (0, 0))) (hne : T ≠ e) : v.ownBlock ≠ some b := Lib.ownBlock_ne h hb hne
theorem or_ne {v r : Option Nat} (h : ∀ b, v = some b → r ≠ some b) : v = none ∨ v ≠ r := by
  cases v with
  | none => exact Or.inl rfl
  | some b => exact Or.inr fun e => h b rfl e.symm
theorem own_lt {w : World} {B : Nat} {e : TypeId} {v : Value} {n : Nat} {xs : List Value} (h : w.ownsRow B e 1 v n xs) {b : Nat} (hb : v.ownBlock = some b) : b < w.heap.size := (h.lt b hb).2

section
variable {B gb : Nat} {G : List Sg} {E : Sg} {Ps : List Tx} {ov gv pv : Value} {ocs gcs pcs : List Value} {w w' : World}
theorem St.lt (h : St B gb G E Ps ov gv pv ocs gcs pcs w) : gb < w.heap.size := (Array.getElem?_eq_some_iff.1 h.box).1
/-- What leaves all blocks leaves it. -/
theorem St.grw (h : St B gb G E Ps ov gv pv ocs gcs pcs w) (hb : Below w.heap.size w w') : St B gb G E Ps ov gv pv ocs gcs pcs w' := by
  have hg : w.grownBy w' none := ⟨hb.os, hb.tape, hb.output, hb.size, fun k hk _ => hb.block k hk⟩
  have hm : Moves (KK ov gv pv gb) (KK ov gv pv gb) w w' := ⟨hb.size, fun b hb' hk => ⟨hk, hb.block b hb'⟩⟩
  refine ⟨by rw [hb.block gb h.lt]; exact h.box, h.apart, h.low, h.oG.kept hg (or_ne fun b _ => by simp), h.oE.kept hg (or_ne fun b _ => by simp), h.oP.kept hg (or_ne fun b _ => by simp), fun j g hj => ?_, fun j ps hj => ?_, h.fP⟩
  · obtain ⟨u, hu, he⟩ := h.fG j g hj
    exact ⟨u, hu, ElAt.move he hm⟩
  · obtain ⟨u, hu, he⟩ := h.fE j ps hj
    exact ⟨u, hu, TxAt.move he hm⟩
theorem snoc_get {α β : Type} {R : α → β → Prop} {xs : List α} {us : List β} {x : α} {u : β} (hl : us.length = xs.length) (h : ∀ (j : Nat) y, xs[j]? = some y → ∃ v, us[j]? = some v ∧ R y v) (hx : R x u) : ∀ (j : Nat) y, (xs ++ [x])[j]? = some y → ∃ v, (us ++ [u])[j]? = some v ∧ R y v := by
  intro j y hj
  rcases Nat.lt_or_ge j xs.length with hlt | hge
  · rw [List.getElem?_append_left hlt] at hj
    obtain ⟨v, hv, hr⟩ := h j y hj
    exact ⟨v, by rw [List.getElem?_append_left (by omega)]; exact hv, hr⟩
  · rw [List.getElem?_append_right hge] at hj
    have h0 : j = xs.length := by
      have := (List.getElem?_eq_some_iff.1 hj).1
      simp at this; omega
    subst h0
    simp at hj
    subst hj
    exact ⟨u, by rw [List.getElem?_append_right (by omega), hl]; simp, hx⟩

/-- A part more. -/
theorem St.part (h : St B gb G E Ps ov gv pv ocs gcs pcs w) {x : Tx} {pv' : Value} (ho : w'.ownsRow B 9 1 pv' (Ps.length + 1) (pcs ++ [.string (_root_.Go.Proofs.YtpmnepihaljamaaGreatDoor.mk x)])) (hg : w.grownBy w' pv.ownBlock) (hat : pv'.ownBlock = pv.ownBlock ∨ pv'.ownBlock = some w.heap.size) : St B gb G E (Ps ++ [x]) ov gv pv' ocs gcs (pcs ++ [.string (_root_.Go.Proofs.YtpmnepihaljamaaGreatDoor.mk x)]) w' := by
  have hm : Moves (KK ov gv pv gb) (KK ov gv pv' gb) w w' := moves_grown hg fun b hb hk => ⟨⟨hk.1, hk.2.1, by
    rcases hat with e | e
    · rw [e]; exact hk.2.2.1
    · rw [e]; intro e2; have := Option.some.inj e2; omega, hk.2.2.2⟩, Ne.symm hk.2.2.1⟩
  have hpl : pcs.length = Ps.length := by have := h.oP.1; omega
  refine ⟨?_, h.apart, h.low, h.oG.kept hg (or_ne fun b hb => own_apart h.oG h.oP (by decide) hb), h.oE.kept hg (or_ne fun b hb => own_apart h.oE h.oP (by decide) hb), by rw [List.length_append]; exact ho, fun j g hj => ?_, fun j ps hj => ?_, fun j y hj => ?_⟩
  · rw [hg.block gb h.lt (Ne.symm (own_box h.oP h.box (by decide)))]; exact h.box
  · obtain ⟨u, hu, he⟩ := h.fG j g hj
    exact ⟨u, hu, ElAt.move he hm⟩
  · obtain ⟨u, hu, he⟩ := h.fE j ps hj
    exact ⟨u, hu, TxAt.move he hm⟩
  · obtain ⟨v, hv, rfl⟩ := snoc_get (R := fun (y : Tx) (v : Value) => v = .string (_root_.Go.Proofs.YtpmnepihaljamaaGreatDoor.mk y)) (us := pcs) (x := x) (u := .string (_root_.Go.Proofs.YtpmnepihaljamaaGreatDoor.mk x)) hpl (fun j y hy => ⟨_, h.fP j y hy, rfl⟩) rfl j y hj
    exact hv
/-- The parts are an element more; the box holds the longer row. -/
theorem St.elem (h : St B gb G E Ps ov gv pv ocs gcs pcs w) {gv' : Value} (ho : w'.ownsRow B 45 1 gv' (E.length + 1) (gcs ++ [pv])) (hg : w.grownBy w' gv.ownBlock) (hat : gv'.ownBlock = gv.ownBlock ∨ gv'.ownBlock = some w.heap.size) : St B gb G (E ++ [Ps]) [] ov gv' (.slice none 0 0) ocs (gcs ++ [pv]) [] (w'.setCell ⟨gb, 0, none⟩ gv') := by
  have hgbw : w'.heap[gb]? = some (.cells #[gv] 50 (0, 0)) := by rw [hg.block gb h.lt (Ne.symm (own_box h.oE h.box (by decide)))]; exact h.box
  have hgl : gb < w'.heap.size := (Array.getElem?_eq_some_iff.1 hgbw).1
  have hs : w'.grownBy (w'.setCell ⟨gb, 0, none⟩ gv') (some gb) := ⟨rfl, rfl, rfl, by simp [World.setCell], fun k _ hk => Below.heap_setCell _ _ _ _ (fun e => hk (by rw [show k = gb from e]))⟩
  have hne : ∀ b, b < w.heap.size → gv.ownBlock ≠ some b → gv'.ownBlock ≠ some b := fun b hb hk => by
    rcases hat with e | e
    · rw [e]; exact hk
    · rw [e]; intro e2; have := Option.some.inj e2; omega
  have hm : Moves (fun b => ov.ownBlock ≠ some b ∧ gv.ownBlock ≠ some b ∧ b ≠ gb) (KK ov gv' (.slice none 0 0) gb) w (w'.setCell ⟨gb, 0, none⟩ gv') :=
    Moves.trans (K' := KK ov gv' (.slice none 0 0) gb) (moves_grown hg fun b hb hk => ⟨⟨hk.1, hne b hb hk.2.1, by simp [Value.ownBlock], hk.2.2⟩, Ne.symm hk.2.1⟩) (moves_grown hs fun b hb hk => ⟨hk, fun e => hk.2.2.2 (Option.some.inj e)⟩)
  have hm1 : Moves (KK ov gv pv gb) (KK ov gv' (.slice none 0 0) gb) w (w'.setCell ⟨gb, 0, none⟩ gv') := ⟨hm.1, fun b hb hk => hm.2 b hb ⟨hk.1, hk.2.1, hk.2.2.2⟩⟩
  have hel : gcs.length = E.length := by have := h.oE.1; omega
  have hP : TxAt (KK ov gv' (.slice none 0 0) gb) (w'.setCell ⟨gb, 0, none⟩ gv') pv Ps := by
    refine TxAt.move (K := fun b => ov.ownBlock ≠ some b ∧ gv.ownBlock ≠ some b ∧ b ≠ gb) ?_ hm
    refine row_of_own h.oP (fun b hb => ⟨own_apart h.oP h.oG (by decide) hb, own_apart h.oP h.oE (by decide) hb, fun e => ?_⟩) fun j u y hu hy => ?_
    · subst e; exact own_box h.oP h.box (by decide) hb
    · rw [h.fP j y hy] at hu
      exact (Option.some.inj hu).symm
  refine ⟨?_, h.apart, h.low, ?_, ?_, World.ownsRow_nil _ _ _ _, fun j g hj => ?_, ?_, fun j x hj => by simp at hj⟩
  · rw [heap_set hgbw]; rfl
  · exact (h.oG.kept hg (or_ne fun b hb => own_apart h.oG h.oE (by decide) hb)).kept hs (or_ne fun b hb e => h.apart (by rw [hb, ← e]))
  · rw [List.length_append]
    exact World.ownsRow.kept ho hs (or_ne fun b hb e => by
      have h1 := Lib.ownBlock_ne ho hgbw (by decide)
      rw [hb, ← e] at h1
      exact h1 rfl)
  · obtain ⟨u, hu, he⟩ := h.fG j g hj
    exact ⟨u, hu, ElAt.move he hm1⟩
  · exact snoc_get (R := fun ps u => TxAt (KK ov gv' (.slice none 0 0) gb) (w'.setCell ⟨gb, 0, none⟩ gv') u ps) hel (fun j ps hj => by
      obtain ⟨u, hu, he⟩ := h.fE j ps hj
      exact ⟨u, hu, TxAt.move he hm1⟩) hP
/-- The elements are a segment more; the box is emptied. -/
theorem St.seg (h : St B gb G E [] ov gv (.slice none 0 0) ocs gcs pcs w) {ov' : Value} (ho : w'.ownsRow B 50 1 ov' (G.length + 1) (ocs ++ [gv])) (hg : w.grownBy w' ov.ownBlock) (hat : ov'.ownBlock = ov.ownBlock ∨ ov'.ownBlock = some w.heap.size) : St B gb (G ++ [E]) [] [] ov' (.slice none 0 0) (.slice none 0 0) (ocs ++ [gv]) [] [] (w'.setCell ⟨gb, 0, none⟩ (.slice none 0 0)) := by
  have hgbw : w'.heap[gb]? = some (.cells #[gv] 50 (0, 0)) := by rw [hg.block gb h.lt (Ne.symm h.apart)]; exact h.box
  have hs : w'.grownBy (w'.setCell ⟨gb, 0, none⟩ (.slice none 0 0)) (some gb) := ⟨rfl, rfl, rfl, by simp [World.setCell], fun k _ hk => Below.heap_setCell _ _ _ _ (fun e => hk (by rw [show k = gb from e]))⟩
  have hne : ∀ b, b < w.heap.size → ov.ownBlock ≠ some b → ov'.ownBlock ≠ some b := fun b hb hk => by
    rcases hat with e | e
    · rw [e]; exact hk
    · rw [e]; intro e2; have := Option.some.inj e2; omega
  have hm : Moves (fun b => ov.ownBlock ≠ some b ∧ b ≠ gb) (KK ov' (.slice none 0 0) (.slice none 0 0) gb) w (w'.setCell ⟨gb, 0, none⟩ (.slice none 0 0)) :=
    Moves.trans (K' := KK ov' (.slice none 0 0) (.slice none 0 0) gb) (moves_grown hg fun b hb hk => ⟨⟨hne b hb hk.1, by simp [Value.ownBlock], by simp [Value.ownBlock], hk.2⟩, Ne.symm hk.1⟩) (moves_grown hs fun b hb hk => ⟨hk, fun e => hk.2.2.2 (Option.some.inj e)⟩)
  have hm1 : Moves (KK ov gv (.slice none 0 0) gb) (KK ov' (.slice none 0 0) (.slice none 0 0) gb) w (w'.setCell ⟨gb, 0, none⟩ (.slice none 0 0)) := ⟨hm.1, fun b hb hk => hm.2 b hb ⟨hk.1, hk.2.2.2⟩⟩
  have hgl : ocs.length = G.length := by have := h.oG.1; omega
  have hE : ElAt (KK ov' (.slice none 0 0) (.slice none 0 0) gb) (w'.setCell ⟨gb, 0, none⟩ (.slice none 0 0)) gv E := by
    refine ElAt.move (K := fun b => ov.ownBlock ≠ some b ∧ b ≠ gb) ?_ hm
    refine row_of_own h.oE (fun b hb => ⟨own_apart h.oE h.oG (by decide) hb, fun e => ?_⟩) fun j u y hu hy => ?_
    · subst e; exact own_box h.oE h.box (by decide) hb
    · obtain ⟨u', hu', ht⟩ := h.fE j y hy
      rw [hu] at hu'
      obtain rfl := Option.some.inj hu'
      exact TxAt.move ht (moves_weak w fun b _ hk => ⟨hk.1, hk.2.2.2⟩)
  refine ⟨?_, ?_, h.low, ?_, World.ownsRow_nil _ _ _ _, World.ownsRow_nil _ _ _ _, ?_, fun j x hj => by simp at hj, fun j x hj => by simp at hj⟩
  · rw [heap_set hgbw]; rfl
  · exact hne gb h.lt h.apart
  · rw [List.length_append]
    exact World.ownsRow.kept ho hs (or_ne fun b hb e => hne gb h.lt h.apart (by rw [hb, ← e]))
  · exact snoc_get (R := fun g u => ElAt (KK ov' (.slice none 0 0) (.slice none 0 0) gb) (w'.setCell ⟨gb, 0, none⟩ (.slice none 0 0)) u g) hgl (fun j g hj => by
      obtain ⟨u, hu, he⟩ := h.fG j g hj
      exact ⟨u, hu, ElAt.move he hm1⟩) hE
theorem St.segs (h : St B gb G E Ps ov gv pv ocs gcs pcs w) : SgAt All w ov G := by
  refine row_of_own h.oG (fun _ _ => trivial) fun j u y hu hy => ?_
  obtain ⟨u', hu', he⟩ := h.fG j y hy
  rw [hu] at hu'
  obtain rfl := Option.some.inj hu'
  exact ElAt.move he (moves_weak w fun _ _ _ => trivial)
theorem St.els (h : St B gb G E Ps ov gv pv ocs gcs pcs w) : ElAt All w gv E := by
  refine row_of_own h.oE (fun _ _ => trivial) fun j u y hu hy => ?_
  obtain ⟨u', hu', he⟩ := h.fE j y hy
  rw [hu] at hu'
  obtain rfl := Option.some.inj hu'
  exact TxAt.move he (moves_weak w fun _ _ _ => trivial)
end
end Go.Proofs.YtpmnepihaljamaaGreatDoor
end
