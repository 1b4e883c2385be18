/-
  Texts put together (merge.py): WMem.
-/
import Derived.Laws.AppendOwn
import Derived.Deep.AppendLies
import Derived.Deep.RegionLaw
import Derived.Deep.LoopGhost
import Derived.Deep.RegionHeld3
import Derived.Maps.AppendAt
import Derived.Test.YtgloihilnbjmeaaDoorMp17
/-
  Words as they lie in memory; the closure that keeps a word.
-/
section
set_option linter.unusedSimpArgs false
set_option linter.unusedVariables false
namespace Go.Proofs.YtgloihilnbjmeaaDoor.Wo
open Go.RowKit

def wcs : List Wd → List Value
  | [] => []
  | x :: r => .string (mk x.1) :: .int .i64 (x.2 : Nat) :: wcs r
theorem wcs_app (a b : List Wd) : wcs (a ++ b) = wcs a ++ wcs b := by induction a <;> simp_all [wcs]
theorem wcs_len (a : List Wd) : (wcs a).length = a.length * 2 := by induction a <;> simp_all [wcs]; omega
theorem wcs_at : ∀ (a : List Wd) (j : Nat) (x : Wd), a[j]? = some x → (wcs a)[j * 2]? = some (.string (mk x.1)) ∧ (wcs a)[j * 2 + 1]? = some (.int .i64 (x.2 : Nat))
  | [], j, x, h => by simp at h
  | y :: r, 0, x, h => by simp at h; subst h; simp [wcs]
  | y :: r, j + 1, x, h => by
    have := wcs_at r j x (by simpa using h)
    rw [show (j + 1) * 2 = j * 2 + 2 by omega, show j * 2 + 2 + 1 = j * 2 + 1 + 2 by omega]
    simpa [wcs] using this
/-- Words in memory. -/
def WdsAt (K : Nat → Prop) (w : World) (v : Value) (ws : List Wd) : Prop :=
  ∃ a c, v = .slice a ws.length c ∧ ws.length ≤ c ∧ c ≤ maxLen ∧ (ws = [] ∨ ∃ b o, a = some ⟨b, o, none⟩ ∧ K b ∧ b < w.heap.size ∧ ∀ (j : Nat) x, ws[j]? = some x → w.cell? ⟨b, o + j * 2, none⟩ = some (.string (mk x.1)) ∧ w.cell? ⟨b, o + j * 2 + 1, none⟩ = some (.int .i64 (x.2 : Nat)))
theorem WdsAt.move {K K' : Nat → Prop} {w w' : World} {v : Value} {ws : List Wd} (h : WdsAt K w v ws) (hm : Moves K K' w w') : WdsAt K' w' v ws := by
  obtain ⟨a, c, rfl, h1, h2, h3⟩ := h
  refine ⟨a, c, rfl, h1, h2, h3.imp id ?_⟩
  rintro ⟨b, o, rfl, hk, hb, hc⟩
  obtain ⟨k', hh⟩ := hm.2 b hb hk
  refine ⟨b, o, rfl, k', Nat.lt_of_lt_of_le hb hm.1, fun j x hj => ?_⟩
  obtain ⟨q1, q2⟩ := hc j x hj
  exact ⟨by rw [World.cell?_of_block (w := w) hh]; exact q1, by rw [World.cell?_of_block (w := w) hh]; exact q2⟩
theorem WdsAt.nil (K : Nat → Prop) (w : World) : WdsAt K w (.slice none 0 0) [] := ⟨none, 0, rfl, by simp, by simp [maxLen], Or.inl rfl⟩
theorem wds_of_own {K : Nat → Prop} {w : World} {base : Nat} {v : Value} {ws : List Wd} (h : w.ownsRow base 61 2 v ws.length (wcs ws)) (hK : ∀ b, v.ownBlock = some b → K b) : WdsAt K w v ws := by
  obtain ⟨hl, h⟩ := h
  rcases h with ⟨rfl, h0⟩ | ⟨g, cap, cur, rfl, _, hg, h1, h2, hs, ht⟩
  · obtain rfl := List.length_eq_zero_iff.1 h0
    exact WdsAt.nil _ _
  · refine ⟨_, cap, rfl, h1, h2, Or.inr ⟨g, 0, rfl, hK g rfl, (Array.getElem?_eq_some_iff.1 hg).1, fun j x hj => ?_⟩⟩
    have hjl : j < ws.length := (List.getElem?_eq_some_iff.1 hj).1
    obtain ⟨e1, e2⟩ := wcs_at ws j x hj
    rw [← ht, List.getElem?_take] at e1 e2
    rw [if_pos (by omega)] at e1 e2
    refine ⟨?_, ?_⟩
    · rw [Nat.zero_add, cell_of_row w g _ cur _ (0, 0) hg]; simpa using e1
    · rw [Nat.zero_add, cell_of_row w g _ cur _ (0, 0) hg]; simpa using e2
theorem WdsAt.form {K : Nat → Prop} {w : World} {v : Value} {xs : List Wd} (h : WdsAt K w v xs) : ∃ a c, v = .slice a xs.length c ∧ xs.length ≤ c ∧ c ≤ 9223372036854775807 := by
  obtain ⟨a, c, rfl, h1, h2, _⟩ := h
  exact ⟨a, c, rfl, h1, by unfold maxLen at h2; exact h2⟩
theorem WdsAt.get {K : Nat → Prop} {w : World} {a : Option Addr} {n c : Nat} {ls : List Wd} (h : WdsAt K w (.slice a n c) ls) (k : Nat) (hk : k < ls.length) :
    ∃ b o, a = some ⟨b, o, none⟩ ∧ b < w.heap.size ∧ ls[k]? = some ls[k] ∧ w.cell? ⟨b, o + k * 2, none⟩ = some (.string (mk ls[k].1)) ∧ w.cell? ⟨b, o + k * 2 + 1, none⟩ = some (.int .i64 (ls[k].2 : Nat)) := by
  obtain ⟨a', c', he, h1, h2, h3⟩ := h
  have ha : a = a' := by injection he
  subst ha
  rcases h3 with h | ⟨b, o, ha, _, hb, hc⟩
  · subst h; simp at hk
  · have hx := List.getElem?_eq_getElem hk
    obtain ⟨q1, q2⟩ := hc k _ hx
    exact ⟨b, o, ha, hb, hx, q1, q2⟩

theorem keepB {w w' : World} {q : Nat} {o : Obj} (h : w.heap[q]? = some o) (hb : Below w.heap.size w w') : w'.heap[q]? = some o := by
  rw [hb.block q (Array.getElem?_eq_some_iff.1 h).1]; exact h
theorem box_cell {w : World} {q : Nat} {v : Value} {T : TypeId} (h : w.heap[q]? = some (.cells #[v] T (0, 0))) : w.cell? ⟨q, 0, none⟩ = some v ∧ w.frozen? ⟨q, 0, none⟩ = false :=
  ⟨by rw [cell_of_row w q 0 _ T (0, 0) h]; rfl, Lib.frozen_of_heap h 0⟩
theorem box_two {w : World} {q : Nat} {v u : Value} {T : TypeId} (h : w.heap[q]? = some (.cells #[v, u] T (0, 0))) : w.cell? ⟨q, 0, none⟩ = some v ∧ w.cell? ⟨q, 1, none⟩ = some u ∧ w.frozen? ⟨q, 0, none⟩ = false ∧ w.frozen? ⟨q, 1, none⟩ = false :=
  ⟨by rw [cell_of_row w q 0 _ T (0, 0) h]; rfl, by rw [cell_of_row w q 1 _ T (0, 0) h]; rfl, Lib.frozen_of_heap h 0, Lib.frozen_of_heap h 1⟩
theorem heap_far {w : World} {b q j : Nat} {o : Obj} {u : Value} (h : w.heap[b]? = some o) (hne : b ≠ q) : (w.setCell ⟨q, j, none⟩ u).heap[b]? = some o := by
  rw [Below.heap_setCell _ _ _ _ hne]; exact h
theorem below_alloc (w : World) (o : Obj) : Below w.heap.size w (w.alloc o) := (Below.refl _ w).alloc (Nat.le_refl _) o
theorem below_trans {a b c : World} (h : Below a.heap.size a b) (k : Below b.heap.size b c) : Below a.heap.size a c := h.trans (k.mono h.size)
theorem infoW : ∃ i, Tryd.prog.info? 61 = some i ∧ i.zero = some (.agg #[.string ByteArray.empty, .int .i64 0]) ∧ i.size = 2 ∧ i.bytes = 24 := by
  have hi : (Tryd.prog.info? 61).map (fun i => (i.zero, i.size, i.bytes)) = some (some (.agg #[.string ByteArray.empty, .int .i64 0]), 2, 24) := by kernel_rfl
  cases hq : Tryd.prog.info? 61 with
  | none => rw [hq] at hi; cases hi
  | some i =>
    rw [hq] at hi
    simp only [Option.map_some, Option.some.injEq, Prod.mk.injEq] at hi
    exact ⟨i, rfl, hi⟩
theorem kept_other {w w' : World} {q : Nat} {cs : Array Value} {T : TypeId} {B : Nat} {e : TypeId} {z : Nat} {v : Value} {n : Nat} {xs : List Value} (h : w.heap[q]? = some (.cells cs T (0, 0))) (ho : w.ownsRow B e z v n xs) (hT : T ≠ e) (hg : w.grownBy w' v.ownBlock) : w'.heap[q]? = some (.cells cs T (0, 0)) := by
  rw [hg.block q (Array.getElem?_eq_some_iff.1 h).1 ?_]
  · exact h
  · intro e
    rcases ho.2 with ⟨rfl, -⟩ | ⟨g, c, cur, rfl, _, hh, _⟩
    · cases e
    · simp only [Value.ownBlock, Option.some.injEq] at e
      subst e
      rw [hh] at h
      simp only [Option.some.injEq, Obj.cells.injEq] at h
      exact hT h.2.1.symm
/-- What Split has in memory while it goes on: the text's box, the answer's box, the box of the words' row, and the row. -/
def KInv (B : Nat) (s : ByteArray) (ws : List Wd) (w : World) : Prop :=
  w.heap[B]? = some (.cells #[.string s] 9 (0, 0)) ∧ w.heap[B + 1]? = some (.cells #[.int .i64 0, .int .i64 0] 31 (0, 0)) ∧ ∃ v, w.heap[B + 2]? = some (.cells #[v] 54 (0, 0)) ∧ w.ownsRow B 61 2 v ws.length (wcs ws)
theorem own_far {w : World} {B : Nat} {v : Value} {n : Nat} {xs : List Value} {q j : Nat} {u x : Value} {T : TypeId} (ho : w.ownsRow B 61 2 v n xs) (hq : w.heap[q]? = some (.cells #[x] T (0, 0))) (hT : T ≠ 61) : (w.setCell ⟨q, j, none⟩ u).ownsRow B 61 2 v n xs := by
  refine ⟨ho.1, ho.2.imp id ?_⟩
  rintro ⟨g, c, cur, rfl, h0, hh, hr⟩
  refine ⟨g, c, cur, rfl, h0, heap_far hh ?_, hr⟩
  rintro rfl
  rw [hh] at hq
  simp only [Option.some.injEq, Obj.cells.injEq] at hq
  exact hT hq.2.1.symm
theorem box_set {w : World} {q : Nat} {v u : Value} {T : TypeId} (h : w.heap[q]? = some (.cells #[v] T (0, 0))) : (w.setCell ⟨q, 0, none⟩ u).heap[q]? = some (.cells #[u] T (0, 0)) := one_setCell h

set_option maxHeartbeats 4000000 in
theorem keep_any (i j : Nat) (s : ByteArray) (B : Nat) (ws : List Wd) (w : World) (h : KInv B s ws w) (hij : i ≤ j) (hj : j ≤ s.size) (hs : s.size ≤ 65536) (hl : ws.length ≤ 65536) :
    Calls Tryd.prog 39 #[.int .i64 (i : Nat), .int .i64 (j : Nat), .pointer (some ⟨B + 2, 0, none⟩), .pointer (some ⟨B, 0, none⟩)] w fun e w' => e = .returned (.tuple #[]) ∧ KInv B s (ws ++ [((s.data.toList.drop i).take (j - i), i)]) w' ∧ Below B w w' := by
  obtain ⟨k1, k2, v, k3, k4⟩ := h
  obtain ⟨iw, j1, j2, j3, j4⟩ := infoW
  have HXE : Hid (s.extract i j = mk ((s.data.toList.drop i).take (j - i))) := Lib.extract_eq s i j
  have hb0 : B < w.heap.size := (Array.getElem?_eq_some_iff.1 k1).1
  have hb2 : B + 2 < w.heap.size := (Array.getElem?_eq_some_iff.1 k3).1
  obtain ⟨c1, -⟩ := box_cell k1
  obtain ⟨c3, f3⟩ := box_cell k3
  have H1 := Lib.hid k1
  have H2 := Lib.hid k2
  have H3 := Lib.hid k3
  have H4 := Lib.hid k4
  clear k1 k2 k3 k4
  obtain ⟨x, hx⟩ : ∃ x, s.extract i j = x := ⟨_, rfl⟩
  have hB := Below.drew (below_alloc w (.cells #[.string x, .int .i64 (i : Nat)] 61))
  have HG1 := Lib.hid (keepB H1.out hB)
  have HG2 := Lib.hid (keepB H2.out hB)
  have HG3 := Lib.hid (keepB H3.out hB)
  have HB := Lib.hid (hB.mono (Nat.le_of_lt hb0))
  have hO : ((w.alloc (.cells #[.string x, .int .i64 (i : Nat)] 61)).drew).ownsRow B 61 2 v ws.length (wcs ws) := by
    refine ⟨H4.out.1, H4.out.2.imp id ?_⟩
    rintro ⟨g, c, cur, rfl, h0, hh, hr⟩
    exact ⟨g, c, cur, rfl, h0, keepB hh hB, hr⟩
  have HO := Lib.hid hO
  have hN : (w.alloc (.cells #[.string x, .int .i64 (i : Nat)] 61)).drew.heap[w.heap.size]? = some (.cells #[.string x, .int .i64 (i : Nat)] 61 (0, 0)) := heap_alloc_new w _
  have HNW := Lib.hid (World.news_of_block hN)
  have HHS : Hid ((w.alloc (.cells #[.string x, .int .i64 (i : Nat)] 61)).drew.heap.size = w.heap.size + 1) := by show (w.alloc _).heap.size = _; simp
  have HON : Hid (∀ u ∈ [Value.string x, .int .i64 (i : Nat)], u.oneCell' = true) := fun u hu => by simp at hu; rcases hu with rfl | rfl <;> rfl
  have HLE : Hid (B ≤ (w.alloc (.cells #[.string x, .int .i64 (i : Nat)] 61)).drew.heap.size) := by show _ ≤ _; rw [HHS.out]; omega
  have hc1 := (box_cell HG1.out).1
  have hc3 := (box_cell HG3.out).1
  have HX := Lib.hid hx
  clear hN hB hO
  go_enter Tryd.func39, Tryd.ntmps39
  go_region_law (first | (refine step_append_lies _ rfl _ _ 54 rfl B 61 iw (.agg #[.string ByteArray.empty, .int .i64 0]) 2 24 Tryd.underlying54 j1 j2 j3 j4 rfl (by omega) v ws.length (wcs ws) (by simp [Act.eval, Act.put]) HO.out ⟨w.heap.size, 0, none⟩ 1 1 [.string x, .int .i64 (i : Nat)] (by simp [Act.eval, Act.put]) rfl HNW.out HON.out (by omega) (by simp only [maxLen]; omega) (by omega) HLE.out (w.heap.size + 1) HHS.out ?_; intro g1 cap1 w1 hown hgrow hat hlt; have hq1 := kept_other HG1.out HO.out (by decide) hgrow; have hq2 := kept_other HG2.out HO.out (by decide) hgrow; have hq3 := kept_other HG3.out HO.out (by decide) hgrow; obtain ⟨x3, x4⟩ := box_cell hq3; have HQ1 := Lib.hid hq1; have HQ2 := Lib.hid hq2; have HQ3 := Lib.hid hq3; have HOW := Lib.hid hown; have HBW := Lib.hid (HB.out.grown hgrow HLE.out fun k hk => (HO.out.lt k hk).1); clear hown hgrow hat hlt hq1 hq2 hq3))
  all_goals go_wp2
  all_goals go_end0
  all_goals
    refine ⟨rfl, ⟨heap_far HQ1.out (by omega), heap_far HQ2.out (by omega), _, box_set HQ3.out, ?_⟩, HBW.out.setCell (p := ⟨B + 2, 0, none⟩) (by simp) _⟩
    have hcs : wcs [((s.data.toList.drop i).take (j - i), i)] = [.string x, .int .i64 (i : Nat)] := by rw [← HX.out, HXE.out]; rfl
    rw [wcs_app, List.length_append, hcs]
    exact own_far HOW.out HQ3.out (by decide)
end Go.Proofs.YtgloihilnbjmeaaDoor.Wo
end
