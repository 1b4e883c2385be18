/-
  What cover.Open and its reference answer, as values; a box of signs that is written anew beside segments.
-/
import Derived.Test.YtjidoificijcfaaDoorKNum
import Derived.Test.YtjidoificijcfaaDoorQHead
set_option linter.unusedSimpArgs false
namespace Go.Proofs.YtjidoificijcfaaDoor
open Go.RowKit

def dv3 (t : UInt8 × UInt8 × UInt8) : Value := dv t.1 t.2.1 t.2.2
def isInt : Value → Bool
  | .int _ _ => true
  | _ => false
/-- Rows stand where a block of numbers is written anew. -/
theorem RowAt.off {α : Type} {R R' : World → Value → α → Prop} {W W' : World} {rb : Nat} {v : Value} {xs : List α} (hs : W.heap.size ≤ W'.heap.size) (hW : ∀ b, b ≠ rb → W'.heap[b]? = W.heap[b]?)
    (hno : ∀ o u, W.cell? ⟨rb, o, none⟩ = some u → isInt u = true) (hR : ∀ u x, R W u x → R' W' u x ∧ isInt u = false) (h : RowAt All R W v xs) : RowAt All R' W' v xs := by
  obtain ⟨a, c, rfl, h1, h2, h3⟩ := h
  refine ⟨a, c, rfl, h1, h2, ?_⟩
  rcases h3 with h3 | ⟨b, o, rfl, _, hb, hc⟩
  · exact Or.inl h3
  · by_cases hx : xs = []
    · exact Or.inl hx
    · have hl : 0 < xs.length := List.length_pos_iff.2 hx
      have hbr : b ≠ rb := by
        rintro rfl
        obtain ⟨u, hu, hr⟩ := hc 0 _ (List.getElem?_eq_getElem hl)
        have h1 := hno _ _ hu
        rw [(hR u _ hr).2] at h1
        cases h1
      refine Or.inr ⟨b, o, rfl, trivial, Nat.lt_of_lt_of_le hb hs, fun j x hj => ?_⟩
      obtain ⟨u, hu, hr⟩ := hc j x hj
      exact ⟨u, by rw [World.cell?_of_block (w := W) (hW b hbr)]; exact hu, (hR u x hr).1⟩
theorem TxAt.off {W W' : World} {rb : Nat} {v : Value} {xs : List Tx} (hs : W.heap.size ≤ W'.heap.size) (hW : ∀ b, b ≠ rb → W'.heap[b]? = W.heap[b]?) (hno : ∀ o u, W.cell? ⟨rb, o, none⟩ = some u → isInt u = true) (h : TxAt All W v xs) : TxAt All W' v xs :=
  RowAt.off hs hW hno (fun u x hr => ⟨hr, by rw [show u = _ from hr]; rfl⟩) h
theorem tx_notInt {K : Nat → Prop} {W : World} {v : Value} {xs : List Tx} (h : TxAt K W v xs) : isInt v = false := by obtain ⟨a, c, rfl, _⟩ := h; rfl
theorem el_notInt {K : Nat → Prop} {W : World} {v : Value} {xs : Sg} (h : ElAt K W v xs) : isInt v = false := by obtain ⟨a, c, rfl, _⟩ := h; rfl
theorem ElAt.off {W W' : World} {rb : Nat} {v : Value} {xs : Sg} (hs : W.heap.size ≤ W'.heap.size) (hW : ∀ b, b ≠ rb → W'.heap[b]? = W.heap[b]?) (hno : ∀ o u, W.cell? ⟨rb, o, none⟩ = some u → isInt u = true) (h : ElAt All W v xs) : ElAt All W' v xs :=
  RowAt.off hs hW hno (fun _ _ hr => ⟨TxAt.off hs hW hno hr, tx_notInt hr⟩) h
theorem SgAt.off {W W' : World} {rb : Nat} {v : Value} {xs : List Sg} (hs : W.heap.size ≤ W'.heap.size) (hW : ∀ b, b ≠ rb → W'.heap[b]? = W.heap[b]?) (hno : ∀ o u, W.cell? ⟨rb, o, none⟩ = some u → isInt u = true) (h : SgAt All W v xs) : SgAt All W' v xs :=
  RowAt.off hs hW hno (fun _ _ hr => ⟨ElAt.off hs hW hno hr, el_notInt hr⟩) h

/-- Three numbers in a block. -/
def Blk (W : World) (rb : Nat) (x y z : Int) : Prop := W.heap[rb]? = some (.cells #[.int .u8 x, .int .u8 y, .int .u8 z] 23 (0, 0))
theorem Blk.new (w : World) (x y z : Int) : Blk (w.alloc (.cells #[.int .u8 x, .int .u8 y, .int .u8 z] 23)) w.heap.size x y z := heap_alloc_new w _
theorem Blk.lt {W : World} {rb : Nat} {x y z : Int} (h : Blk W rb x y z) : rb < W.heap.size := (Array.getElem?_eq_some_iff.1 h).1
theorem Blk.grw {W W' : World} {rb : Nat} {x y z : Int} (h : Blk W rb x y z) (hb : Below W.heap.size W W') : Blk W' rb x y z := by
  unfold Blk
  rw [hb.block rb h.lt]
  exact h
theorem Blk.cells {W : World} {rb : Nat} {x y z : Int} (h : Blk W rb x y z) : (W.cell? ⟨rb, 0, none⟩ = some (.int .u8 x) ∧ W.cell? ⟨rb, 1, none⟩ = some (.int .u8 y) ∧ W.cell? ⟨rb, 2, none⟩ = some (.int .u8 z)) ∧ W.frozen? ⟨rb, 0, none⟩ = false ∧ W.frozen? ⟨rb, 1, none⟩ = false ∧ W.frozen? ⟨rb, 2, none⟩ = false := by
  refine ⟨⟨?_, ?_, ?_⟩, Lib.frozen_of_heap h 0, Lib.frozen_of_heap h 1, Lib.frozen_of_heap h 2⟩
  · rw [cell_of_row W rb 0 _ 23 (0, 0) h]; rfl
  · rw [cell_of_row W rb 1 _ 23 (0, 0) h]; rfl
  · rw [cell_of_row W rb 2 _ 23 (0, 0) h]; rfl
theorem Blk.ints {W : World} {rb : Nat} {x y z : Int} (h : Blk W rb x y z) : ∀ o u, W.cell? ⟨rb, o, none⟩ = some u → isInt u = true := by
  intro o u hu
  rw [cell_of_row W rb o _ 23 (0, 0) h] at hu
  match o, hu with
  | 0, hu => simp at hu; subst hu; rfl
  | 1, hu => simp at hu; subst hu; rfl
  | 2, hu => simp at hu; subst hu; rfl
  | _ + 3, hu => simp at hu
/-- What stands behind three numbers written anew. -/
def put3 (W : World) (rb : Nat) (x y z : Value) : World := ((W.setCell ⟨rb, 0, none⟩ x).setCell ⟨rb, 1, none⟩ y).setCell ⟨rb, 2, none⟩ z
theorem put3_size (W : World) (rb : Nat) (x y z : Value) : W.heap.size ≤ (put3 W rb x y z).heap.size := by simp [put3, World.setCell]
theorem put3_block (W : World) (rb : Nat) (x y z : Value) (b : Nat) (h : b ≠ rb) : (put3 W rb x y z).heap[b]? = W.heap[b]? := by
  unfold put3
  rw [Below.heap_setCell _ _ _ _ h, Below.heap_setCell _ _ _ _ h, Below.heap_setCell _ _ _ _ h]
theorem put3_below {B : Nat} {w W : World} (h : Below B w W) (rb : Nat) (hB : B ≤ rb) (x y z : Value) : Below B w (put3 W rb x y z) := ((h.setCell (p := ⟨rb, 0, none⟩) hB x).setCell (p := ⟨rb, 1, none⟩) hB y).setCell (p := ⟨rb, 2, none⟩) hB z
theorem put3_segs {W : World} {rb : Nat} {a b c : Int} (h : Blk W rb a b c) (x y z : Value) {v : Value} {l : List Sg} (hs : SgAt All W v l) : SgAt All (put3 W rb x y z) v l :=
  SgAt.off (put3_size W rb x y z) (fun b hb => put3_block W rb x y z b hb) h.ints hs

/-! ### The answers, way by way -/
theorem op_long {k s : Tx} (h : 65536 < s.length) : opE k s = 10 := by unfold opE; rw [if_pos h]
theorem op_none {k s : Tx} (h : s.length ≤ 65536) (hf : findO s = none) : opE k s = 5 := by unfold opE; rw [if_neg (by omega), hf]
theorem op_kind {k s : Tx} {e p q : UInt8} (h : s.length ≤ 65536) (hf : findO s = some (e, p, q)) (hk : kindB k = false) : opE k s = 5 := by
  unfold opE
  rw [if_neg (by omega), hf]
  simp only [hk, if_true]
theorem op_split {k s : Tx} {e p q : UInt8} (h : s.length ≤ 65536) (hf : findO s = some (e, p, q)) (hk : kindB k = true) (hs : spE e p q (s.drop 6) ≠ 0) : opE k s = spE e p q (s.drop 6) := by
  unfold opE
  rw [if_neg (by omega), hf]
  simp only [hk, Bool.true_eq_false, if_false]
  rw [if_neg hs]
theorem op_un {k s : Tx} {e p q : UInt8} (h : s.length ≤ 65536) (hf : findO s = some (e, p, q)) (hk : kindB k = true) (hs : spE e p q (s.drop 6) = 0) : opE k s = unE k (spV e p q (s.drop 6)) := by
  unfold opE
  rw [if_neg (by omega), hf]
  simp only [hk, Bool.true_eq_false, if_false]
  rw [if_pos hs]
theorem op_good {k s : Tx} {e p q : UInt8} (hf : findO s = some (e, p, q)) (h0 : opE k s = 0) : opD k s = (e, p, q) ∧ opN k s = unN k (spV e p q (s.drop 6)) ∧ opL k s = unL k (spV e p q (s.drop 6)) := by
  have hD : opD k s = (e, p, q) := by unfold opD; rw [if_pos h0, hf]; rfl
  have hA : opA k s = spV e p q (s.drop 6) := by unfold opA; rw [hD]
  refine ⟨hD, ?_, ?_⟩
  · unfold opN; rw [if_pos h0, hA]
  · unfold opL; rw [if_pos h0, hA]
theorem sum_mem : ∀ (l : List Nat) (x : Nat), x ∈ l → x ≤ l.sum
  | [], _, h => by cases h
  | y :: r, x, h => by
    rw [List.sum_cons]
    rcases List.mem_cons.1 h with rfl | h
    · omega
    · have := sum_mem r x h; omega
theorem part_ln {l : List Sg} {g : Sg} {ps : List Tx} {x : Tx} (hg : g ∈ l) (hp : ps ∈ g) (hx : x ∈ ps) : x.length ≤ ln l := by
  have h1 : 1 + x.length ≤ (ps.map fun x => 1 + x.length).sum := sum_mem _ _ (List.mem_map.2 ⟨x, hx, rfl⟩)
  have h2 : (ps.map fun x => 1 + x.length).sum ≤ (g.map fun ps => (ps.map fun x => 1 + x.length).sum).sum := sum_mem _ _ (List.mem_map.2 ⟨ps, hp, rfl⟩)
  have h3 : (g.map fun ps => (ps.map fun x => 1 + x.length).sum).sum ≤ ln l := sum_mem _ _ (List.mem_map.2 ⟨g, hg, rfl⟩)
  omega
theorem sp_small {e p q : UInt8} {t : Tx} : (spV e p q t).length ≤ 4096 ∧ ∀ g ∈ spV e p q t, ∀ ps ∈ g, ∀ x ∈ ps, x.length ≤ 65536 := by
  by_cases h : spE e p q t = 0
  · have hl := ln_sp h
    obtain ⟨_, ht, _⟩ := sp_zero h
    obtain ⟨o1, _⟩ := once h
    refine ⟨(wr_ok o1).2.1, fun g hg ps hp x hx => ?_⟩
    have := part_ln hg hp hx
    omega
  · rw [sp_bad h]
    exact ⟨by simp, fun g hg => by cases hg⟩
end Go.Proofs.YtjidoificijcfaaDoor
