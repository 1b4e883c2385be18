/-
  Numbers that go round: which rule is meant; rules left out, turned round.
-/
import Derived.Test.YtbokhiaiihpeeaaURow
import Derived.Test.YtbokhiaiihpeeaaURule
import Derived.Test.YtbokhiaiihpeeaaRTail
set_option linter.unusedSimpArgs false
set_option linter.unusedVariables false
namespace Go.Proofs.Ytbokhiaiihpeeaa.Ul
open Go.RowKit
open Pl (Cd St Ru Pn KsAt StsAt RusAt RuIn Ok1 cdv stv ruv pnv below_alloc below_trans bfive bsix beight below_tr)
open Wo (box_cell box_two keepB heap_far)
open Cm (Ln)

theorem mod_fact (a : Int) (n : Nat) (h0 : ¬ n = 0) (hn : n ≤ 300) : ∃ k : Nat, wrap64 ((IntKind.u64.wrap a).tmod (n : Int)) = (k : Int) ∧ k < n := by
  have hw : 0 ≤ IntKind.u64.wrap a := by
    have := IntKind.wrap_u64 a
    rw [this]
    omega
  have h1 : 0 ≤ (IntKind.u64.wrap a).tmod (n : Int) := Int.tmod_nonneg _ hw
  have h2 : (IntKind.u64.wrap a).tmod (n : Int) < (n : Int) := Int.tmod_lt_of_pos _ (by omega)
  obtain ⟨k, hk⟩ := Int.eq_ofNat_of_zero_le h1
  refine ⟨k, ?_, by omega⟩
  rw [hk]
  unfold wrap64
  omega
theorem bsix_soft {w : World} {q : Nat} {a0 a1 a2 a3 a4 a5 : Value} {T : TypeId} (h : w.heap[q]? = some (.cells #[a0, a1, a2, a3, a4, a5] T (0, 0))) (i : Nat) : w.frozen? ⟨q, i, none⟩ = false := Lib.frozen_of_heap h i
theorem set5 {w : World} {q : Nat} {a0 a1 a2 a3 a4 a5 : Value} {T : TypeId} (h : w.heap[q]? = some (.cells #[a0, a1, a2, a3, a4, a5] T (0, 0))) (v : Value) : (w.setCell ⟨q, 5, none⟩ v).heap[q]? = some (.cells #[a0, a1, a2, a3, a4, v] T (0, 0)) := heap_setCell_same w q 5 _ _ _ h
theorem take_at {L : List Rr.Rw} {k j : Nat} {u : Value} (h : (Rr.rcs (L.take k))[j]? = some u) : (Rr.rcs L)[j]? = some u := by
  rw [Rr.rcs_take, List.getElem?_take] at h
  split at h
  · exact h
  · cases h
theorem drop_at {L : List Rr.Rw} {k j : Nat} {u : Value} (h : (Rr.rcs (L.drop k))[j]? = some u) : (Rr.rcs L)[k * 8 + j]? = some u := by
  rw [Rr.rcs_drop, List.getElem?_drop] at h
  exact h
/-- The rank of the rule at a place. -/
def rankL (l : List Ru) (j : Nat) : Int := ((l[j]?).map (·.rank)).getD 0
theorem rank_at {w : World} {b o n c : Nat} {l : List Ru} (h : RusAt All w (.slice (some ⟨b, o, none⟩) n c) l) (j : Nat) (hj : j < l.length) : w.cell? ⟨b, o + j * 8, none⟩ = some (.int .i64 (rankL l j)) := by
  obtain ⟨b', o', k, u, s, hbo, -, hx, hcc, -⟩ := RusAt.get h j hj
  obtain ⟨rfl, rfl⟩ : b = b' ∧ o = o' := by simpa using hbo
  unfold rankL
  rw [hx]
  exact hcc.1
theorem turn_num (k n i : Nat) (h : i ≤ k + n) : ((k : Int) + (n : Int) - (i : Int)).tmod (n : Int) = (((k + n - i) % n : Nat) : Int) := by
  have e : (k : Int) + (n : Int) - (i : Int) = ((k + n - i : Nat) : Int) := by omega
  rw [e, ← Int.ofNat_tmod]
theorem row_cells {w : World} {b o : Nat} {L : List Rr.Rw} (h : ∀ j u, (Rr.rcs L)[j]? = some u → w.cell? ⟨b, o + j, none⟩ = some u) {ix : Nat} {t : Rr.Rw} (ht : L[ix]? = some t) : Pl.RuCells w b (o + ix * 8) t.1 t.2.1 t.2.2.1 t.2.2.2 := by
  have e : ∀ i, i < 8 → ∀ u, (Rr.r8 t)[i]? = some u → w.cell? ⟨b, o + ix * 8 + i, none⟩ = some u := fun i hi u hu => by
    rw [Nat.add_assoc]
    exact h _ u (by rw [Rr.rcs_at L ix t ht i hi]; exact hu)
  exact ⟨e 0 (by omega) _ rfl, e 1 (by omega) _ rfl, e 2 (by omega) _ rfl, e 3 (by omega) _ rfl, e 4 (by omega) _ rfl, e 5 (by omega) _ rfl, e 6 (by omega) _ rfl, e 7 (by omega) _ rfl⟩
theorem one_cells {w : World} {g : Nat} {t : Rr.Rw} {T : TypeId} (h : w.heap[g]? = some (.cells #[.int .i64 t.1.rank, .int .i64 t.1.cif.kind, .string (mk t.1.cif.lo), .string (mk t.1.cif.hi), .int .i64 t.1.cif.n, t.2.1, t.2.2.1, t.2.2.2] T (0, 0))) (j : Nat) (u : Value) (hj : (Rr.rcs [t])[j]? = some u) : w.cell? ⟨g, 0 + j, none⟩ = some u := by
  rw [Nat.zero_add, cell_of_row w g j _ _ (0, 0) h]
  match j, hj with
  | 0, hj => exact hj
  | 1, hj => exact hj
  | 2, hj => exact hj
  | 3, hj => exact hj
  | 4, hj => exact hj
  | 5, hj => exact hj
  | 6, hj => exact hj
  | 7, hj => exact hj
  | n + 8, hj => simp [Rr.rcs] at hj
theorem more_rows {M L : List Rr.Rw} {f : Nat → Nat} {i : Nat} {t : Rr.Rw} (h : M.length = i ∧ ∀ j, j < i → M[j]? = L[f j]?) (ht : some t = L[f i]?) : (M ++ [t]).length = i + 1 ∧ ∀ j, j < i + 1 → (M ++ [t])[j]? = L[f j]? := by
  refine ⟨by simp [h.1], fun j hj => ?_⟩
  rcases Nat.lt_or_ge j i with hl | hl
  · rw [List.getElem?_append_left (by omega)]; exact h.2 j hl
  · obtain rfl : j = i := by omega
    rw [List.getElem?_append_right (by omega), h.1, Nat.sub_self, ← ht]; rfl
theorem rows_in {M L : List Rr.Rw} {n k : Nat} (h : M.length = n ∧ ∀ j, j < n → M[j]? = L[(k + n - j) % n]?) (hl : L.length = n) (hn : 0 < n) (t : Rr.Rw) (ht : t ∈ M) : t ∈ L := by
  obtain ⟨j, hj, rfl⟩ := List.mem_iff_getElem.1 ht
  have := h.2 j (by omega)
  rw [List.getElem?_eq_getElem hj] at this
  exact List.mem_of_getElem? this.symm
theorem turn_ben (x : Ln) (net : Int) (rs : List Ru) (L M : List Rr.Rw) (n k : Nat) (hL : L.map (·.1) = rs) (hn : rs.length = n) (hk : k < n) (h : M.length = n ∧ ∀ j, j < n → M[j]? = L[(k + n - j) % n]?) (hd : ∀ a c, c < a → a < n → rankL rs a ≠ rankL rs c) : benV x net (M.map (·.1)) = benV x net rs := by
  have hp : rs.Perm (M.map (·.1)) := turn_rules rs (M.map (·.1)) k (by omega) (by rw [List.length_map, h.1, hn]) (fun i hi => by
    rw [hn, List.getElem?_map, h.2 i (by omega), ← hL, List.getElem?_map])
  have hw : rs.Pairwise fun a b => a.rank ≠ b.rank := by
    rw [List.pairwise_iff_getElem]
    intro i j hi hj hij
    have := hd j i hij (by omega)
    unfold rankL at this
    rw [List.getElem?_eq_getElem hi, List.getElem?_eq_getElem hj] at this
    exact fun e => this e.symm
  have hv := fun what => val_perm x net what hp hw
  show benv _ _ _ _ = benv _ _ _ _
  rw [← hv 1, ← hv 2, ← hv 3, ← hv 4]
theorem own_form {w : World} {B : Nat} {e : TypeId} {z : Nat} {v : Value} {n : Nat} {xs : List Value} (h : w.ownsRow B e z v n xs) : ∃ a m c, v = .slice a m c := by
  rcases h.2 with ⟨rfl, -⟩ | ⟨g, cap, cur, rfl, -⟩
  · exact ⟨_, _, _, rfl⟩
  · exact ⟨_, _, _, rfl⟩
theorem grow_below {w w' : World} {row : Option Nat} {B : Nat} (h : w.grownBy w' row) (hB : B ≤ w.heap.size) (hr : ∀ b, row = some b → B ≤ b) : Below B w w' :=
  ⟨h.os, h.tape, h.output, h.size, fun b hb => h.block b (Nat.lt_of_lt_of_le hb hB) (fun e => by have := hr b e.symm; omega)⟩
theorem own_ge {w : World} {B : Nat} {e : TypeId} {z : Nat} {v : Value} {n : Nat} {xs : List Value} (h : w.ownsRow B e z v n xs) (b : Nat) (hb : v.ownBlock = some b) : B ≤ b := by
  rcases h.2 with ⟨rfl, -⟩ | ⟨g, cap, cur, rfl, hg, -⟩
  · cases hb
  · obtain rfl : g = b := Option.some.inj hb
    exact hg
/-- A store into a block below B leaves the row. -/
theorem own_set {w : World} {B q : Nat} {e : TypeId} {z : Nat} {v : Value} {n : Nat} {xs : List Value} (h : w.ownsRow B e z v n xs) (hq : q < B) (i : Nat) (u : Value) : (w.setCell ⟨q, i, none⟩ u).ownsRow B e z v n xs := by
  refine ⟨h.1, ?_⟩
  rcases h.2 with h0 | ⟨g, cap, cur, rfl, hB, hg, h1⟩
  · exact Or.inl h0
  · exact Or.inr ⟨g, cap, cur, rfl, hB, by rw [Below.heap_setCell _ _ _ _ (by simp; omega)]; exact hg, h1⟩
/-- What append leaves of a box below B. -/
theorem grow_box {w w' : World} {v : Value} {B q : Nat} {e : TypeId} {z n : Nat} {xs : List Value} {o : Obj} (hg : w.grownBy w' v.ownBlock) (ho : w.ownsRow B e z v n xs) (hq : q < B) (h : w.heap[q]? = some o) : w'.heap[q]? = some o := by
  rw [hg.block q (Array.getElem?_eq_some_iff.1 h).1 (fun e => by have := own_ge ho q e.symm; omega)]
  exact h
theorem own_far {w w' : World} {B : Nat} {e : TypeId} {z : Nat} {v : Value} {n : Nat} {xs : List Value} (h : w.ownsRow B e z v n xs) (hb : Below w.heap.size w w') : w'.ownsRow B e z v n xs := by
  refine ⟨h.1, ?_⟩
  rcases h.2 with h0 | ⟨g, cap, cur, rfl, hB, hg, h1⟩
  · exact Or.inl h0
  · exact Or.inr ⟨g, cap, cur, rfl, hB, keepB hg hb, h1⟩
theorem ru_lo {K : Nat → Prop} {w W : World} {r : Ru} {k u s : Value} {q : Nat} (h : RuIn K w r k u s) (hb : Below w.heap.size w W) (hq : w.heap.size ≤ q) : RuIn (fun b => b < q) W r k u s := h.move ⟨hb.size, fun b hl _ => ⟨Nat.lt_of_lt_of_le hl hq, hb.block b hl⟩⟩
end Go.Proofs.Ytbokhiaiihpeeaa.Ul
