/-
  Texts put together (merge.py): XBase.
-/
import Derived.Handy
import Derived.Sort.Grow
import Derived.Deep.DeepCutAuto
import Derived.Test.YtgloihilnbjmeaaDoorMc20
import Derived.Test.YtgloihilnbjmeaaDoorMc21
/-
  Boxes of a few cells, texts against texts: what layer 13's contracts lean on.
-/
section
set_option linter.unusedSimpArgs false
set_option linter.unusedVariables false
set_option maxRecDepth 100000
namespace Go.Proofs.YtgloihilnbjmeaaDoor.Ex
open Go.RowKit
open Wo (Wd WdsAt keepB box_cell box_two heap_far below_alloc below_trans)

theorem mk_list' (x : Tx) : (mk x).toList = x := by rw [Lib.toList_data, mk_list]
theorem mk_eqs' (x y : Tx) : ((mk x).toList == (mk y).toList) = decide (x = y) := by
  rw [mk_list', mk_list', Bool.eq_iff_iff]
  simp
theorem mk_nes' (x y : Tx) : ((mk x).toList != (mk y).toList) = !decide (x = y) := by
  rw [bne, mk_eqs']
theorem mk_emp (s : Tx) : (mk s).toList.isEmpty = decide (s = []) := by
  rw [mk_list']
  cases s <;> simp
theorem below_tr {w a b : World} {p : Nat} (hp : w.heap.size = p) (h : Below p w a) (k : Below a.heap.size a b) : Below p w b := by subst hp; exact below_trans h k
theorem cells4 {w : World} {g : Nat} {a b c d : Value} {T : TypeId} (h : w.heap[g]? = some (.cells #[a, b, c, d] T (0, 0))) : w.cell? ⟨g, 0, none⟩ = some a ∧ w.cell? ⟨g, 1, none⟩ = some b ∧ w.cell? ⟨g, 2, none⟩ = some c ∧ w.cell? ⟨g, 3, none⟩ = some d := by
  refine ⟨?_, ?_, ?_, ?_⟩ <;> (rw [cell_of_row w g _ _ T (0, 0) h]; rfl)
theorem cells5 {w : World} {g : Nat} {a b c d e : Value} {T : TypeId} (h : w.heap[g]? = some (.cells #[a, b, c, d, e] T (0, 0))) : w.cell? ⟨g, 0, none⟩ = some a ∧ w.cell? ⟨g, 1, none⟩ = some b ∧ w.cell? ⟨g, 2, none⟩ = some c ∧ w.cell? ⟨g, 3, none⟩ = some d ∧ w.cell? ⟨g, 4, none⟩ = some e := by
  refine ⟨?_, ?_, ?_, ?_, ?_⟩ <;> (rw [cell_of_row w g _ _ T (0, 0) h]; rfl)
theorem cells6 {w : World} {g : Nat} {a b c d e f : Value} {T : TypeId} (h : w.heap[g]? = some (.cells #[a, b, c, d, e, f] T (0, 0))) : w.cell? ⟨g, 0, none⟩ = some a ∧ w.cell? ⟨g, 1, none⟩ = some b ∧ w.cell? ⟨g, 2, none⟩ = some c ∧ w.cell? ⟨g, 3, none⟩ = some d ∧ w.cell? ⟨g, 4, none⟩ = some e ∧ w.cell? ⟨g, 5, none⟩ = some f := by
  refine ⟨?_, ?_, ?_, ?_, ?_, ?_⟩ <;> (rw [cell_of_row w g _ _ T (0, 0) h]; rfl)
theorem tx_grw {w w' : World} {v : Value} {l : List Tx} (h : TxAt All w v l) (hb : Below w.heap.size w w') : TxAt All w' v l := TxAt.move h (Below.moves hb)
abbrev put5 (w : World) (p : Nat) (a b c d e : Value) : World := ((((w.setCell ⟨p, 0, none⟩ a).setCell ⟨p, 1, none⟩ b).setCell ⟨p, 2, none⟩ c).setCell ⟨p, 3, none⟩ d).setCell ⟨p, 4, none⟩ e
abbrev put2 (w : World) (p : Nat) (a b : Value) : World := (w.setCell ⟨p, 0, none⟩ a).setCell ⟨p, 1, none⟩ b
theorem hp2_same {w : World} {p : Nat} {x0 x1 : Value} {T : TypeId} (h : w.heap[p]? = some (.cells #[x0, x1] T (0, 0))) (a0 a1 : Value) : (put2 w p a0 a1).heap[p]? = some (.cells #[a0, a1] T (0, 0)) := by
  have h0 : (w.setCell ⟨p, 0, none⟩ a0).heap[p]? = some (.cells #[a0, x1] T (0, 0)) := heap_setCell_same w p 0 _ _ _ h
  exact heap_setCell_same _ p 1 _ _ _ h0
theorem hp2_far {w : World} {k p : Nat} {o : Obj} (h : w.heap[k]? = some o) (hk : k ≠ p) (a0 a1 : Value) : (put2 w p a0 a1).heap[k]? = some o := heap_far (heap_far h hk) hk
theorem hp5_far {w : World} {k p : Nat} {o : Obj} (h : w.heap[k]? = some o) (hk : k ≠ p) (a b c d e : Value) : (put5 w p a b c d e).heap[k]? = some o := heap_far (heap_far (heap_far (heap_far (heap_far h hk) hk) hk) hk) hk
theorem hp5_same {w : World} {p : Nat} {x0 x1 x2 x3 x4 : Value} {T : TypeId} (h : w.heap[p]? = some (.cells #[x0, x1, x2, x3, x4] T (0, 0))) (a b c d e : Value) : (put5 w p a b c d e).heap[p]? = some (.cells #[a, b, c, d, e] T (0, 0)) := by
  have h0 : (w.setCell ⟨p, 0, none⟩ a).heap[p]? = some (.cells #[a, x1, x2, x3, x4] T (0, 0)) := heap_setCell_same w p 0 _ _ _ h
  have h1 : ((w.setCell ⟨p, 0, none⟩ a).setCell ⟨p, 1, none⟩ b).heap[p]? = some (.cells #[a, b, x2, x3, x4] T (0, 0)) := heap_setCell_same _ p 1 _ _ _ h0
  have h2 : (((w.setCell ⟨p, 0, none⟩ a).setCell ⟨p, 1, none⟩ b).setCell ⟨p, 2, none⟩ c).heap[p]? = some (.cells #[a, b, c, x3, x4] T (0, 0)) := heap_setCell_same _ p 2 _ _ _ h1
  have h3 : ((((w.setCell ⟨p, 0, none⟩ a).setCell ⟨p, 1, none⟩ b).setCell ⟨p, 2, none⟩ c).setCell ⟨p, 3, none⟩ d).heap[p]? = some (.cells #[a, b, c, d, x4] T (0, 0)) := heap_setCell_same _ p 3 _ _ _ h2
  exact heap_setCell_same _ p 4 _ _ _ h3
theorem below_p2 {B : Nat} {w W : World} (h : Below B w W) {p : Nat} (hp : B ≤ p) (a0 a1 : Value) : Below B w (put2 W p a0 a1) := (h.setCell (p := ⟨p, 0, none⟩) hp a0).setCell (p := ⟨p, 1, none⟩) hp a1
theorem below_p5 {B : Nat} {w W : World} (h : Below B w W) {p : Nat} (hp : B ≤ p) (a b c d e : Value) : Below B w (put5 W p a b c d e) := ((((h.setCell (p := ⟨p, 0, none⟩) hp a).setCell (p := ⟨p, 1, none⟩) hp b).setCell (p := ⟨p, 2, none⟩) hp c).setCell (p := ⟨p, 3, none⟩) hp d).setCell (p := ⟨p, 4, none⟩) hp e
theorem lit_t {x l : Tx} (h : x = l) : ((mk x).toList == l) = true := by rw [mk_list', h]; simp
theorem lit_f {x l : Tx} (h : ¬ x = l) : ((mk x).toList == l) = false := by rw [mk_list']; simpa using h

theorem le_sum : ∀ (l : List Nat) (x : Nat), x ∈ l → x ≤ l.sum
  | [], x, h => by cases h
  | a :: r, x, h => by
    rw [List.sum_cons]
    rcases List.mem_cons.1 h with rfl | h
    · omega
    · have := le_sum r x h; omega
theorem spV_lens {s : Tx} (h : Wo.spE s = 0) : (∀ x ∈ Wo.spV s, x.1.length ≤ 65536) ∧ s.length ≤ 65536 := by
  have hl : s.length ≤ 65536 := by
    unfold Wo.spE at h
    split at h
    · cases h
    · omega
  have hV : Wo.spV s = Wo.wds 0 s := by
    unfold Wo.spE at h
    unfold Wo.spV
    rw [if_neg (by omega)] at h ⊢
    split at h
    · next hg => rw [if_pos hg]
    · cases h
  have hsum := Wo.wds_sum s 0
  rw [hV]
  refine ⟨fun x hx => ?_, hl⟩
  have h1 : x.1.length ≤ (((Wo.wds 0 s).map (·.1)).map List.length).sum := le_sum _ _ (List.mem_map_of_mem (List.mem_map_of_mem hx))
  have : (((Wo.wds 0 s).map (·.1)).map List.length).sum ≤ s.length := hsum
  omega
def EdOk (f : Ed) : Prop := (f.a.length ≤ 281474976710656 ∧ f.b.length ≤ 281474976710656) ∧ (-9223372036854775808 ≤ f.kind ∧ f.kind ≤ 9223372036854775807) ∧ (-9223372036854775808 ≤ f.n ∧ f.n ≤ 9223372036854775807)
theorem code5 {t : Tx} (h : Cm.codeB t 5 5 = true) : t.length = 5 := by
  simp only [Cm.codeB, Bool.and_eq_true, decide_eq_true_eq] at h
  omega
theorem ok_of_one {x : Ed} (h : oneE x = 0) : EdOk x := by
  obtain ⟨h1, h2⟩ := one_facts h
  have a5 := code5 h1
  rcases h2 with ⟨hk, hb, hy, n1, n2⟩ | ⟨hk, hne, hb, hn⟩ | ⟨hk, hne, hb, hn, hy⟩
  · exact ⟨⟨by omega, by rw [hb]; simp⟩, by omega, by omega⟩
  · have := code5 hb; exact ⟨⟨by omega, by omega⟩, by omega, by omega⟩
  · have := code5 hb; exact ⟨⟨by omega, by omega⟩, by omega, by omega⟩
end Go.Proofs.YtgloihilnbjmeaaDoor.Ex
end
