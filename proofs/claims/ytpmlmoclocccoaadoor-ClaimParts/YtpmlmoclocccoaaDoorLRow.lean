/-
  Rows that the call makes: a copy of a row into a new one; services' cells, numbered through; what a copy is.
-/
import Derived.Test.YtpmlmoclocccoaaDoorLMem
import Derived.Deep.OwnRows
import Derived.Deep.Slices
import Derived.Laws.CopyRow
set_option linter.unusedSimpArgs false
namespace Go.Proofs.YtpmlmoclocccoaaDoor.Cm
open Go.RowKit

theorem setRow_alloc (w : World) (Z X : Array Value) (t : TypeId) : (w.alloc (.cells Z t)).setRow w.heap.size X = w.alloc (.cells X t) := by
  unfold World.setRow World.alloc
  congr 1
  apply Array.ext
  · simp
  · intro k h1 h2
    simp only [Array.getElem_modify, Array.getElem_push]
    by_cases hk : k < w.heap.size
    · simp [hk, Nat.ne_of_gt hk]
    · have : k = w.heap.size := by simp at h2; omega
      subst this
      simp
theorem copy_new (P : Program) (w : World) (dT sT ty elem : TypeId) (sz n : Nat) (Z : Array Value) (t : TypeId) (b o : Nat) (sCap : Nat) (f : Nat → Value)
    (hu : P.underlying dT = some (.slice elem)) (hs : (P.info? elem).map (·.size) = some sz) (hZ : Z.size = n * sz)
    (hsrc : ∀ q, q < n * sz → w.cell? ⟨b, o + q, none⟩ = some (f q)) (h1 : ∀ q, q < n * sz → (f q).oneCell' = true) :
    (Builtin.copy_ #[dT, sT] ty #[.slice (some ⟨w.heap.size, 0, none⟩) n n, .slice (some ⟨b, o, none⟩) n sCap]).run P (w.alloc (.cells Z t)) = .ok (goInt n) (w.alloc (.cells ((List.range (n * sz)).map f).toArray t)) := by
  have hcs : ((List.range (n * sz)).map f).length = n * sz := by simp
  have hl := run_loadCells_list (P := P) (w.alloc (.cells Z t)) ⟨b, o, none⟩ ((List.range (n * sz)).map f) (fun j v hj => by
    have hjl : j < n * sz := by have := (List.getElem?_eq_some_iff.1 hj).1; rw [hcs] at this; exact this
    rw [List.getElem?_map, List.getElem?_range hjl] at hj
    obtain rfl := Option.some.inj hj
    have h := hsrc j hjl
    have hadd : (⟨b, o, none⟩ : Addr).add j = ⟨b, o + j, none⟩ := by unfold Addr.add; split <;> simp_all
    rw [hadd, (below_alloc w _).cell (p := ⟨b, o + j, none⟩) (World.block_lt_of_cell? w _ h)]
    exact h)
  have hst := run_storeCells_at P w.heap.size 0 t ((List.range (n * sz)).map f) 0 Z (w.alloc (.cells Z t)) (heap_alloc_new w _) (by rw [hcs, hZ]; omega) (fun v hv => by
    obtain ⟨q, hq, rfl⟩ := List.mem_map.1 hv
    exact h1 q (List.mem_range.1 hq))
  have hd : List.drop (n * sz) Z.toList = [] := List.drop_of_length_le (by simp [hZ])
  rw [hcs, Nat.zero_add, Nat.zero_add, List.take_zero, List.nil_append, hd, List.append_nil, setRow_alloc] at hst
  rw [hcs] at hl
  cases hq : P.info? elem with
  | none => simp [hq] at hs
  | some i =>
    have hi : i.size = sz := by simpa [hq] using hs
    simp [Builtin.copy_, run_underlying hu, Builtin.lenOf, Builtin.firstCells, sizeOf, typeInfo, hq, hi, hl, hst]

/-- A new row of texts: none, or a whole block. -/
def NewTx (b : Nat) (w : World) (v : Value) (l : List Tx) : Prop := (l = [] ∧ v = .slice none 0 0) ∨ (l ≠ [] ∧ v = .slice (some ⟨b, 0, none⟩) l.length l.length ∧ w.rowIs b 9 l.length fun i => .string (mk (l.getD i [])))
theorem NewTx.tx {b : Nat} {w : World} {v : Value} {l : List Tx} (h : NewTx b w v l) (hl : l.length ≤ maxLen) : TxAt (fun x => x = b) w v l := by
  rcases h with ⟨rfl, rfl⟩ | ⟨_, rfl, hr⟩
  · exact TxAt.nil _ _
  · refine ⟨_, _, rfl, Nat.le_refl _, hl, Or.inr ⟨b, 0, rfl, rfl, hr.lt, fun j x hj => ?_⟩⟩
    have hjl := (List.getElem?_eq_some_iff.1 hj).1
    refine ⟨_, ?_, rfl⟩
    rw [Nat.zero_add, hr.cell hjl, List.getD_eq_getElem?_getD, hj]; rfl
theorem NewTx.of_block {b : Nat} {w w' : World} {v : Value} {l : List Tx} (h : NewTx b w v l) (he : b < w.heap.size → w'.heap[b]? = w.heap[b]?) : NewTx b w' v l :=
  h.imp id fun ⟨h1, h2, h3⟩ => ⟨h1, h2, h3.of_block (he h3.lt)⟩

/-- A service's cells, numbered. -/
def lnc (x : Ln) (m : Value) : Nat → Value
  | 0 => .string (mk x.proc)
  | 1 => m
  | 2 => .int .i64 x.date
  | 3 => .int .i64 x.units
  | 4 => .int .i64 x.billed
  | _ => .int .i64 x.prior
def rowc (ls : List Ln) (M : Nat → Value) (q : Nat) : Value := lnc (ls.getD (q / 6) ln0) (M (q / 6)) (q % 6)
theorem rowc_at (ls : List Ln) (M : Nat → Value) (j : Nat) (x : Ln) (h : ls[j]? = some x) (r : Nat) (hr : r < 6) : rowc ls M (j * 6 + r) = lnc x (M j) r := by
  unfold rowc
  have e1 : (j * 6 + r) / 6 = j := by omega
  have e2 : (j * 6 + r) % 6 = r := by omega
  rw [e1, e2, List.getD_eq_getElem?_getD, h]; rfl
theorem cells_of_row {w : World} {b : Nat} {t : TypeId} {ls : List Ln} {M : Nat → Value} (h : w.rowIs b t (ls.length * 6) (rowc ls M)) (j : Nat) (x : Ln) (hx : ls[j]? = some x) : LnCells w b (0 + j * 6) x (M j) := by
  have hj := (List.getElem?_eq_some_iff.1 hx).1
  have g : ∀ r, r < 6 → w.cell? ⟨b, j * 6 + r, none⟩ = some (lnc x (M j) r) := fun r hr => by
    rw [h.cell (show j * 6 + r < ls.length * 6 by omega), rowc_at ls M j x hx r hr]
  rw [Nat.zero_add]
  exact ⟨g 0 (by omega), g 1 (by omega), g 2 (by omega), g 3 (by omega), g 4 (by omega), g 5 (by omega)⟩
theorem row_of_cells {w : World} {b o : Nat} {ls : List Ln} {M : Nat → Value} (h : ∀ j x, ls[j]? = some x → LnCells w b (o + j * 6) x (M j)) (q : Nat) (hq : q < ls.length * 6) : w.cell? ⟨b, o + q, none⟩ = some (rowc ls M q) := by
  have hj : q / 6 < ls.length := by omega
  have hx := List.getElem?_eq_getElem hj
  obtain ⟨h0, h1, h2, h3, h4, h5⟩ := h (q / 6) _ hx
  have hr : q % 6 < 6 := Nat.mod_lt _ (by omega)
  have e : rowc ls M q = lnc ls[q / 6] (M (q / 6)) (q % 6) := by
    have := rowc_at ls M (q / 6) _ hx (q % 6) hr
    rwa [show q / 6 * 6 + q % 6 = q by omega] at this
  rw [e]
  have eq : o + q = o + q / 6 * 6 + q % 6 := by omega
  rw [eq]
  generalize q % 6 = r at *
  match r, hr with
  | 0, _ => exact h0
  | 1, _ => exact h1
  | 2, _ => exact h2
  | 3, _ => exact h3
  | 4, _ => exact h4
  | 5, _ => exact h5
theorem rowc_one (ls : List Ln) (M : Nat → Value) (hM : ∀ j, j < ls.length → (M j).oneCell' = true) (q : Nat) (hq : q < ls.length * 6) : (rowc ls M q).oneCell' = true := by
  have hj : q / 6 < ls.length := by omega
  unfold rowc
  have h := hM _ hj
  have hr : q % 6 < 6 := Nat.mod_lt _ (by omega)
  generalize q % 6 = r at *
  match r, hr with
  | 0, _ => rfl
  | 1, _ => exact h
  | 2, _ => rfl
  | 3, _ => rfl
  | 4, _ => rfl
  | 5, _ => rfl

theorem lnc_ne (x : Ln) (m m' : Value) : ∀ r, r ≠ 1 → lnc x m r = lnc x m' r
  | 0, _ => rfl
  | 1, h => absurd rfl h
  | 2, _ => rfl
  | 3, _ => rfl
  | 4, _ => rfl
  | _ + 5, _ => rfl
theorem rowc_set (ls : List Ln) (M : Nat → Value) (k : Nat) (u : Value) (q : Nat) : (if q = k * 6 + 1 then u else rowc ls M q) = rowc ls (fun j => if j = k then u else M j) q := by
  unfold rowc
  show _ = lnc (ls.getD (q / 6) ln0) (if q / 6 = k then u else M (q / 6)) (q % 6)
  by_cases h : q / 6 = k
  · by_cases h1 : q % 6 = 1
    · have hq : q = k * 6 + 1 := by omega
      rw [if_pos hq, h1, if_pos h]; rfl
    · rw [if_neg (by omega)]
      exact lnc_ne _ _ _ _ h1
  · rw [if_neg (by omega), if_neg h]
theorem NewTx.form {b : Nat} {w : World} {v : Value} {l : List Tx} (h : NewTx b w v l) : ∃ a c, v = .slice a l.length c := by
  rcases h with ⟨rfl, rfl⟩ | ⟨_, rfl, _⟩
  · exact ⟨_, _, rfl⟩
  · exact ⟨_, _, rfl⟩
/-- Services in new memory: the row is the block B, the modifiers lie behind it. -/
def NewLns (B : Nat) (w : World) (v : Value) (ls : List Ln) : Prop :=
  (ls = [] ∧ v = .slice none 0 0) ∨ (ls ≠ [] ∧ v = .slice (some ⟨B, 0, none⟩) ls.length ls.length ∧ ∃ M : Nat → Value, w.rowIs B 35 (ls.length * 6) (rowc ls M) ∧ ∀ j x, ls[j]? = some x → ∃ b, B < b ∧ NewTx b w (M j) x.mods)
theorem NewLns.at {B : Nat} {w : World} {v : Value} {ls : List Ln} (h : NewLns B w v ls) (hl : ls.length ≤ maxLen) (hm : ∀ x ∈ ls, x.mods.length ≤ maxLen) : LnsAt (fun b => B ≤ b) w v ls := by
  rcases h with ⟨rfl, rfl⟩ | ⟨_, rfl, M, hr, hM⟩
  · exact ⟨none, 0, rfl, by simp, by simp [maxLen], Or.inl rfl⟩
  · refine ⟨_, _, rfl, Nat.le_refl _, hl, Or.inr ⟨B, 0, rfl, Nat.le_refl _, hr.lt, fun j x hj => ⟨M j, cells_of_row hr j x hj, ?_⟩⟩⟩
    obtain ⟨b, hb, hn⟩ := hM j x hj
    exact TxAt.move (hn.tx (hm x (List.mem_of_getElem? hj))) (moves_weak w fun c _ hc => by rw [hc]; exact Nat.le_of_lt hb)
theorem NewLns.of_blocks {B : Nat} {w w' : World} {v : Value} {ls : List Ln} (h : NewLns B w v ls) (he : ∀ b, B ≤ b → b < w.heap.size → w'.heap[b]? = w.heap[b]?) : NewLns B w' v ls := by
  rcases h with h | ⟨h1, h2, M, hr, hM⟩
  · exact Or.inl h
  · refine Or.inr ⟨h1, h2, M, hr.of_block (he B (Nat.le_refl _) hr.lt), fun j x hj => ?_⟩
    obtain ⟨b, hb, hn⟩ := hM j x hj
    exact ⟨b, hb, hn.of_block fun hlt => he b (Nat.le_of_lt hb) hlt⟩
theorem NewLns.form {B : Nat} {w : World} {v : Value} {ls : List Ln} (h : NewLns B w v ls) : ∃ a c, v = .slice a ls.length c := by
  rcases h with ⟨rfl, rfl⟩ | ⟨_, rfl, _⟩
  · exact ⟨_, _, rfl⟩
  · exact ⟨_, _, rfl⟩
end Go.Proofs.YtpmlmoclocccoaaDoor.Cm
