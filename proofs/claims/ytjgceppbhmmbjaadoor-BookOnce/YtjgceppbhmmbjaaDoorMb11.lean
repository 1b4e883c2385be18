/-
  Texts put together (merge.py): LRow, LCopy.
-/
import Derived.Deep.OwnRows
import Derived.Deep.Slices
import Derived.Laws.CopyRow
import Derived.Test.YtjgceppbhmmbjaaDoorMb5
import Derived.Test.YtjgceppbhmmbjaaDoorMb8
/-
  Rows that the call makes: a copy of a row into a new one; services' cells, numbered through; what a copy is.
-/
section
set_option linter.unusedSimpArgs false
namespace Go.Proofs.YtjgceppbhmmbjaaDoor.Cm
open Go.RowKit

theorem setRow_alloc (w : World) (Z X : Array Value) (t : TypeId) : (w.alloc (.cells Z t)).setRow w.heap.size X = w.alloc (.cells X t) := by
  unfold World.setRow World.alloc
  congr 1
  apply Array.ext
  · simp
  · intro k h1 h2
    simp only [Array.getElem_modify, Array.getElem_push]
    by_cases hk : k < w.heap.size
    · simp [hk, Nat.ne_of_gt hk]
    · have : k = w.heap.size := by simp at h2; omega
      subst this
      simp
theorem copy_new (P : Program) (w : World) (dT sT ty elem : TypeId) (sz n : Nat) (Z : Array Value) (t : TypeId) (b o : Nat) (sCap : Nat) (f : Nat → Value)
    (hu : P.underlying dT = some (.slice elem)) (hs : (P.info? elem).map (·.size) = some sz) (hZ : Z.size = n * sz)
    (hsrc : ∀ q, q < n * sz → w.cell? ⟨b, o + q, none⟩ = some (f q)) (h1 : ∀ q, q < n * sz → (f q).oneCell' = true) :
    (Builtin.copy_ #[dT, sT] ty #[.slice (some ⟨w.heap.size, 0, none⟩) n n, .slice (some ⟨b, o, none⟩) n sCap]).run P (w.alloc (.cells Z t)) = .ok (goInt n) (w.alloc (.cells ((List.range (n * sz)).map f).toArray t)) := by
  have hcs : ((List.range (n * sz)).map f).length = n * sz := by simp
  have hl := run_loadCells_list (P := P) (w.alloc (.cells Z t)) ⟨b, o, none⟩ ((List.range (n * sz)).map f) (fun j v hj => by
    have hjl : j < n * sz := by have := (List.getElem?_eq_some_iff.1 hj).1; rw [hcs] at this; exact this
    rw [List.getElem?_map, List.getElem?_range hjl] at hj
    obtain rfl := Option.some.inj hj
    have h := hsrc j hjl
    have hadd : (⟨b, o, none⟩ : Addr).add j = ⟨b, o + j, none⟩ := by unfold Addr.add; split <;> simp_all
    rw [hadd, (below_alloc w _).cell (p := ⟨b, o + j, none⟩) (World.block_lt_of_cell? w _ h)]
    exact h)
  have hst := run_storeCells_at P w.heap.size 0 t ((List.range (n * sz)).map f) 0 Z (w.alloc (.cells Z t)) (heap_alloc_new w _) (by rw [hcs, hZ]; omega) (fun v hv => by
    obtain ⟨q, hq, rfl⟩ := List.mem_map.1 hv
    exact h1 q (List.mem_range.1 hq))
  have hd : List.drop (n * sz) Z.toList = [] := List.drop_of_length_le (by simp [hZ])
  rw [hcs, Nat.zero_add, Nat.zero_add, List.take_zero, List.nil_append, hd, List.append_nil, setRow_alloc] at hst
  rw [hcs] at hl
  cases hq : P.info? elem with
  | none => simp [hq] at hs
  | some i =>
    have hi : i.size = sz := by simpa [hq] using hs
    simp [Builtin.copy_, run_underlying hu, Builtin.lenOf, Builtin.firstCells, sizeOf, typeInfo, hq, hi, hl, hst]

/-- A new row of texts: none, or a whole block. -/
def NewTx (b : Nat) (w : World) (v : Value) (l : List Tx) : Prop := (l = [] ∧ v = .slice none 0 0) ∨ (l ≠ [] ∧ v = .slice (some ⟨b, 0, none⟩) l.length l.length ∧ w.rowIs b 9 l.length fun i => .string (mk (l.getD i [])))
theorem NewTx.tx {b : Nat} {w : World} {v : Value} {l : List Tx} (h : NewTx b w v l) (hl : l.length ≤ maxLen) : TxAt (fun x => x = b) w v l := by
  rcases h with ⟨rfl, rfl⟩ | ⟨_, rfl, hr⟩
  · exact TxAt.nil _ _
  · refine ⟨_, _, rfl, Nat.le_refl _, hl, Or.inr ⟨b, 0, rfl, rfl, hr.lt, fun j x hj => ?_⟩⟩
    have hjl := (List.getElem?_eq_some_iff.1 hj).1
    refine ⟨_, ?_, rfl⟩
    rw [Nat.zero_add, hr.cell hjl, List.getD_eq_getElem?_getD, hj]; rfl
theorem NewTx.of_block {b : Nat} {w w' : World} {v : Value} {l : List Tx} (h : NewTx b w v l) (he : b < w.heap.size → w'.heap[b]? = w.heap[b]?) : NewTx b w' v l :=
  h.imp id fun ⟨h1, h2, h3⟩ => ⟨h1, h2, h3.of_block (he h3.lt)⟩

/-- A service's cells, numbered. -/
def lnc (x : Ln) (m : Value) : Nat → Value
  | 0 => .string (mk x.proc)
  | 1 => m
  | 2 => .int .i64 x.date
  | 3 => .int .i64 x.units
  | 4 => .int .i64 x.billed
  | _ => .int .i64 x.prior
def rowc (ls : List Ln) (M : Nat → Value) (q : Nat) : Value := lnc (ls.getD (q / 6) ln0) (M (q / 6)) (q % 6)
theorem rowc_at (ls : List Ln) (M : Nat → Value) (j : Nat) (x : Ln) (h : ls[j]? = some x) (r : Nat) (hr : r < 6) : rowc ls M (j * 6 + r) = lnc x (M j) r := by
  unfold rowc
  have e1 : (j * 6 + r) / 6 = j := by omega
  have e2 : (j * 6 + r) % 6 = r := by omega
  rw [e1, e2, List.getD_eq_getElem?_getD, h]; rfl
theorem cells_of_row {w : World} {b : Nat} {t : TypeId} {ls : List Ln} {M : Nat → Value} (h : w.rowIs b t (ls.length * 6) (rowc ls M)) (j : Nat) (x : Ln) (hx : ls[j]? = some x) : LnCells w b (0 + j * 6) x (M j) := by
  have hj := (List.getElem?_eq_some_iff.1 hx).1
  have g : ∀ r, r < 6 → w.cell? ⟨b, j * 6 + r, none⟩ = some (lnc x (M j) r) := fun r hr => by
    rw [h.cell (show j * 6 + r < ls.length * 6 by omega), rowc_at ls M j x hx r hr]
  rw [Nat.zero_add]
  exact ⟨g 0 (by omega), g 1 (by omega), g 2 (by omega), g 3 (by omega), g 4 (by omega), g 5 (by omega)⟩
theorem row_of_cells {w : World} {b o : Nat} {ls : List Ln} {M : Nat → Value} (h : ∀ j x, ls[j]? = some x → LnCells w b (o + j * 6) x (M j)) (q : Nat) (hq : q < ls.length * 6) : w.cell? ⟨b, o + q, none⟩ = some (rowc ls M q) := by
  have hj : q / 6 < ls.length := by omega
  have hx := List.getElem?_eq_getElem hj
  obtain ⟨h0, h1, h2, h3, h4, h5⟩ := h (q / 6) _ hx
  have hr : q % 6 < 6 := Nat.mod_lt _ (by omega)
  have e : rowc ls M q = lnc ls[q / 6] (M (q / 6)) (q % 6) := by
    have := rowc_at ls M (q / 6) _ hx (q % 6) hr
    rwa [show q / 6 * 6 + q % 6 = q by omega] at this
  rw [e]
  have eq : o + q = o + q / 6 * 6 + q % 6 := by omega
  rw [eq]
  generalize q % 6 = r at *
  match r, hr with
  | 0, _ => exact h0
  | 1, _ => exact h1
  | 2, _ => exact h2
  | 3, _ => exact h3
  | 4, _ => exact h4
  | 5, _ => exact h5
theorem rowc_one (ls : List Ln) (M : Nat → Value) (hM : ∀ j, j < ls.length → (M j).oneCell' = true) (q : Nat) (hq : q < ls.length * 6) : (rowc ls M q).oneCell' = true := by
  have hj : q / 6 < ls.length := by omega
  unfold rowc
  have h := hM _ hj
  have hr : q % 6 < 6 := Nat.mod_lt _ (by omega)
  generalize q % 6 = r at *
  match r, hr with
  | 0, _ => rfl
  | 1, _ => exact h
  | 2, _ => rfl
  | 3, _ => rfl
  | 4, _ => rfl
  | 5, _ => rfl

theorem lnc_ne (x : Ln) (m m' : Value) : ∀ r, r ≠ 1 → lnc x m r = lnc x m' r
  | 0, _ => rfl
  | 1, h => absurd rfl h
  | 2, _ => rfl
  | 3, _ => rfl
  | 4, _ => rfl
  | _ + 5, _ => rfl
theorem rowc_set (ls : List Ln) (M : Nat → Value) (k : Nat) (u : Value) (q : Nat) : (if q = k * 6 + 1 then u else rowc ls M q) = rowc ls (fun j => if j = k then u else M j) q := by
  unfold rowc
  show _ = lnc (ls.getD (q / 6) ln0) (if q / 6 = k then u else M (q / 6)) (q % 6)
  by_cases h : q / 6 = k
  · by_cases h1 : q % 6 = 1
    · have hq : q = k * 6 + 1 := by omega
      rw [if_pos hq, h1, if_pos h]; rfl
    · rw [if_neg (by omega)]
      exact lnc_ne _ _ _ _ h1
  · rw [if_neg (by omega), if_neg h]
theorem NewTx.form {b : Nat} {w : World} {v : Value} {l : List Tx} (h : NewTx b w v l) : ∃ a c, v = .slice a l.length c := by
  rcases h with ⟨rfl, rfl⟩ | ⟨_, rfl, _⟩
  · exact ⟨_, _, rfl⟩
  · exact ⟨_, _, rfl⟩
/-- Services in new memory: the row is the block B, the modifiers lie behind it. -/
def NewLns (B : Nat) (w : World) (v : Value) (ls : List Ln) : Prop :=
  (ls = [] ∧ v = .slice none 0 0) ∨ (ls ≠ [] ∧ v = .slice (some ⟨B, 0, none⟩) ls.length ls.length ∧ ∃ M : Nat → Value, w.rowIs B 58 (ls.length * 6) (rowc ls M) ∧ ∀ j x, ls[j]? = some x → ∃ b, B < b ∧ NewTx b w (M j) x.mods)
theorem NewLns.at {B : Nat} {w : World} {v : Value} {ls : List Ln} (h : NewLns B w v ls) (hl : ls.length ≤ maxLen) (hm : ∀ x ∈ ls, x.mods.length ≤ maxLen) : LnsAt (fun b => B ≤ b) w v ls := by
  rcases h with ⟨rfl, rfl⟩ | ⟨_, rfl, M, hr, hM⟩
  · exact ⟨none, 0, rfl, by simp, by simp [maxLen], Or.inl rfl⟩
  · refine ⟨_, _, rfl, Nat.le_refl _, hl, Or.inr ⟨B, 0, rfl, Nat.le_refl _, hr.lt, fun j x hj => ⟨M j, cells_of_row hr j x hj, ?_⟩⟩⟩
    obtain ⟨b, hb, hn⟩ := hM j x hj
    exact TxAt.move (hn.tx (hm x (List.mem_of_getElem? hj))) (moves_weak w fun c _ hc => by rw [hc]; exact Nat.le_of_lt hb)
theorem NewLns.of_blocks {B : Nat} {w w' : World} {v : Value} {ls : List Ln} (h : NewLns B w v ls) (he : ∀ b, B ≤ b → b < w.heap.size → w'.heap[b]? = w.heap[b]?) : NewLns B w' v ls := by
  rcases h with h | ⟨h1, h2, M, hr, hM⟩
  · exact Or.inl h
  · refine Or.inr ⟨h1, h2, M, hr.of_block (he B (Nat.le_refl _) hr.lt), fun j x hj => ?_⟩
    obtain ⟨b, hb, hn⟩ := hM j x hj
    exact ⟨b, hb, hn.of_block fun hlt => he b (Nat.le_of_lt hb) hlt⟩
theorem NewLns.form {B : Nat} {w : World} {v : Value} {ls : List Ln} (h : NewLns B w v ls) : ∃ a c, v = .slice a ls.length c := by
  rcases h with ⟨rfl, rfl⟩ | ⟨_, rfl, _⟩
  · exact ⟨_, _, rfl⟩
  · exact ⟨_, _, rfl⟩
end Go.Proofs.YtjgceppbhmmbjaaDoor.Cm
end

/-
  What claim.copyMods, copyLines and Copy answer, as contracts: the same in new memory.
-/
section
set_option linter.unusedSimpArgs false
namespace Go.Proofs.YtjgceppbhmmbjaaDoor.Cm
open Go.RowKit
theorem info9 : (Tryd.prog.info? 9).map (fun i => (i.zero, i.size, i.bytes)) = some (some (.string ByteArray.empty), 1, 16) := by kernel_rfl
theorem size9 : (Tryd.prog.info? 9).map (·.size) = some 1 := by kernel_rfl
theorem infoL : (Tryd.prog.info? 58).map (fun i => (i.zero, i.size, i.bytes)) = some (some (.agg #[.string ByteArray.empty, .slice none 0 0, .int .i64 0, .int .i64 0, .int .i64 0, .int .i64 0]), 6, 72) := by kernel_rfl
theorem sizeL : (Tryd.prog.info? 58).map (·.size) = some 6 := by kernel_rfl
theorem run_make_lines (n : Nat) (hn : n ≤ 1000000) (w : World) : (Instr.makeSlice 23 (.int .i64 (n : Int)) (.int .i64 (n : Int))).run Tryd.prog w = .ok (.slice (some ⟨w.heap.size, 0, none⟩) n n) (w.alloc (.cells (madeCells #[.string ByteArray.empty, .slice none 0 0, .int .i64 0, .int .i64 0, .int .i64 0, .int .i64 0] (n * 6)) 58)) := by
  obtain ⟨i, hi, hzz⟩ := Option.map_eq_some_iff.1 infoL
  simp only [Prod.mk.injEq] at hzz
  obtain ⟨hz, hs, hb⟩ := hzz
  have hr := run_make (P := Tryd.prog) w 23 58 i _ Tryd.underlying23 hi hz .i64 .i64 n n (by omega) (Int.le_refl _) (by rw [hb]; omega) (by omega)
  rw [hs] at hr
  simp only [Int.toNat_natCast] at hr
  rw [hr]
  rfl

set_option maxHeartbeats 1000000 in
theorem copyMods_any (v : Value) (l : List Tx) (w : World) (h : TxAt All w v l) (hl : l.length ≤ 1000000) :
    Calls Tryd.prog 45 #[v] w fun e w' => (∃ u, e = .returned u ∧ NewTx w.heap.size w' u l) ∧ Below w.heap.size w w' := by
  have HV := Lib.hid h
  obtain ⟨a, c, rfl, h1, h2⟩ := TxAt.form h
  clear h
  cases l with
  | nil =>
    go_enter Tryd.func45, Tryd.ntmps45
    go_wp2
    go_ret
    exact ⟨⟨_, rfl, Or.inl ⟨rfl, rfl⟩⟩, Below.refl _ _⟩
  | cons t0 r =>
    generalize hL : t0 :: r = L at *
    have hne : L ≠ [] := by rw [← hL]; simp
    have hpos : 0 < L.length := by rw [← hL]; simp
    clear hL
    have hz : ((L.length : Int) == 0) = false := by simp; omega
    obtain ⟨b, o, rfl, -, -⟩ := tx_get HV.out 0 hpos
    have HMK := run_make_row' (P := Tryd.prog) 56 9 (.string ByteArray.empty) 16 Tryd.underlying56 info9 rfl .i64 .i64 L.length (by omega) (by omega)
    have HCP : ∀ ty, (Builtin.copy_ #[56, 56] ty #[.slice (some ⟨w.heap.size, 0, none⟩) L.length L.length, .slice (some ⟨b, o, none⟩) L.length c]).run Tryd.prog (w.alloc (.cells (madeCells #[.string ByteArray.empty] L.length) 9)) = .ok (goInt L.length) (w.alloc (.cells ((List.range (L.length * 1)).map fun i => Value.string (mk (L.getD i []))).toArray 9)) := fun ty =>
      copy_new Tryd.prog w 56 56 ty 9 1 L.length _ 9 b o c (fun i => Value.string (mk (L.getD i []))) Tryd.underlying56 size9 (by rw [size_madeCells]; omega) (fun q hq => by
        have hql : q < L.length := by omega
        obtain ⟨b', o', e0, hx, hu⟩ := tx_get HV.out q hql
        injection e0 with e0
        injection e0 with e1 e2
        subst e1 e2
        rw [hu, List.getD_eq_getElem?_getD, hx]; rfl) (fun _ _ => rfl)
    rw [Nat.mul_one] at HCP
    have HN : Hid (NewTx w.heap.size (w.alloc (.cells ((List.range L.length).map fun i => Value.string (mk (L.getD i []))).toArray 9)) (.slice (some ⟨w.heap.size, 0, none⟩) L.length L.length) L) := by
      refine Or.inr ⟨hne, rfl, ?_⟩
      have := World.rowIs_alloc w ((List.range L.length).map fun i => Value.string (mk (L.getD i []))).toArray 9 (fun i => Value.string (mk (L.getD i []))) (fun i hi => by
        have : i < L.length := by simpa using hi
        simp [this])
      simpa using this
    go_enter Tryd.func45, Tryd.ntmps45
    go_wp2
    go_ret
    exact ⟨⟨_, rfl, HN.out⟩, below_alloc _ _⟩

/-- Behind some rounds: the first k services have modifiers of their own, the others share them still. -/
def Half (B : Nat) (w0 w : World) (ls : List Ln) (k : Nat) (M : Nat → Value) : Prop :=
  w.rowIs B 58 (ls.length * 6) (rowc ls M) ∧ (∀ j x, ls[j]? = some x → j < k → ∃ b, B < b ∧ NewTx b w (M j) x.mods) ∧ (∀ j x, ls[j]? = some x → k ≤ j → TxAt All w0 (M j) x.mods)
theorem Half.step {B : Nat} {w0 wr w1 : World} {ls : List Ln} {k : Nat} {M : Nat → Value} (h : Half B w0 wr ls k M) (hb : Below wr.heap.size wr w1) {x : Ln} (hx : ls[k]? = some x) {u : Value} (hu : NewTx wr.heap.size w1 u x.mods) :
    Half B w0 (w1.setCell ⟨B, k * 6 + 1, none⟩ u) ls (k + 1) (fun j => if j = k then u else M j) := by
  obtain ⟨hr, ho, ht⟩ := h
  have hB := hr.lt
  have hblk : ∀ b, B < b → (w1.setCell ⟨B, k * 6 + 1, none⟩ u).heap[b]? = w1.heap[b]? := fun b hb' => Below.heap_setCell _ _ _ _ (Nat.ne_of_gt hb')
  refine ⟨?_, fun j y hj hjk => ?_, fun j y hj hjk => ?_⟩
  · have h1 := hr.of_block (w' := w1) (hb.block B hB)
    exact (h1.set (k * 6 + 1) u).congr fun q _ => rowc_set ls M k u q
  · by_cases e : j = k
    · subst e
      rw [hx] at hj
      obtain rfl := Option.some.inj hj
      refine ⟨wr.heap.size, hB, ?_⟩
      show NewTx _ _ (if j = j then u else M j) _
      rw [if_pos rfl]
      exact hu.of_block fun _ => hblk _ hB
    · obtain ⟨b, hb1, hn⟩ := ho j y hj (by omega)
      refine ⟨b, hb1, ?_⟩
      show NewTx _ _ (if j = k then u else M j) _
      rw [if_neg e]
      exact hn.of_block fun hlt => (hblk b hb1).trans (hb.block b hlt)
  · show TxAt _ _ (if j = k then u else M j) _
    rw [if_neg (show ¬ j = k by omega)]
    exact ht j y hj (by omega)

set_option maxHeartbeats 2000000 in
theorem copyLines_any (v : Value) (ls : List Ln) (w : World) (h : LnsAt All w v ls) (hl : ls.length ≤ 1000000) (hml : ∀ x ∈ ls, x.mods.length ≤ 1000000) :
    Calls Tryd.prog 36 #[v] w fun e w' => (∃ u, e = .returned u ∧ NewLns w.heap.size w' u ls) ∧ Below w.heap.size w w' := by
  have HV := Lib.hid h
  obtain ⟨a, c, rfl, h1, h2⟩ := LnsAt.form h
  cases ls with
  | nil =>
    clear h
    go_enter Tryd.func36, Tryd.ntmps36
    go_wp2
    go_ret
    exact ⟨⟨_, rfl, Or.inl ⟨rfl, rfl⟩⟩, Below.refl _ _⟩
  | cons t0 r =>
    generalize hL : t0 :: r = L at *
    have hne : L ≠ [] := by rw [← hL]; simp
    have hpos : 0 < L.length := by rw [← hL]; simp
    clear hL
    have hz : ((L.length : Int) == 0) = false := by simp; omega
    obtain ⟨b, o, m0, rfl, -, -, -⟩ := LnsAt.get h 0 hpos
    obtain ⟨M0, HM0⟩ := Deep.choose_lt (α := Value) (n := L.length) (p := fun j m => ∀ x, L[j]? = some x → LnCells w b (o + j * 6) x m ∧ TxAt All w m x.mods) (fun j hj => by
      obtain ⟨b', o', m, e0, hx, hc, hr⟩ := LnsAt.get h j hj
      injection e0 with e0
      injection e0 with e1 e2
      subst e1 e2
      exact ⟨m, fun x hx' => by rw [hx] at hx'; obtain rfl := Option.some.inj hx'; exact ⟨hc, hr⟩⟩)
    have hM1 : ∀ j x, L[j]? = some x → LnCells w b (o + j * 6) x (M0 j) ∧ TxAt All w (M0 j) x.mods := fun j x hx => HM0 j (List.getElem?_eq_some_iff.1 hx).1 x hx
    clear h HM0
    have HMK := run_make_lines L.length hl
    have HCP : ∀ ty, (Builtin.copy_ #[23, 23] ty #[.slice (some ⟨w.heap.size, 0, none⟩) L.length L.length, .slice (some ⟨b, o, none⟩) L.length c]).run Tryd.prog (w.alloc (.cells (madeCells #[.string ByteArray.empty, .slice none 0 0, .int .i64 0, .int .i64 0, .int .i64 0, .int .i64 0] (L.length * 6)) 58)) = .ok (goInt L.length) (w.alloc (.cells ((List.range (L.length * 6)).map (rowc L M0)).toArray 58)) := fun ty =>
      copy_new Tryd.prog w 23 23 ty 58 6 L.length _ 58 b o c (rowc L M0) Tryd.underlying23 sizeL (size_madeCells _ _) (fun q hq => row_of_cells (fun j x hx => (hM1 j x hx).1) q hq) (rowc_one L M0 fun j hj => by
        obtain ⟨a, c, e, -, -⟩ := TxAt.form (hM1 j _ (List.getElem?_eq_getElem hj)).2
        rw [e]; rfl)
    have HST : Hid (Half w.heap.size w (w.alloc (.cells ((List.range (L.length * 6)).map (rowc L M0)).toArray 58)) L 0 M0) := by
      refine ⟨?_, fun j x _ hj => absurd hj (by omega), fun j x hj _ => (hM1 j x hj).2⟩
      have := World.rowIs_alloc w ((List.range (L.length * 6)).map (rowc L M0)).toArray 58 (rowc L M0) (fun i hi => by
        have : i < L.length * 6 := by simpa using hi
        simp [this])
      simpa using this
    have HML := Lib.hid hml
    clear hM1 hml
    go_enter Tryd.func36, Tryd.ntmps36
    go_wp2
    go_loopg [16] (L.length) (fun g i wr => ∃ k : Nat, ∃ M : Nat → Value, k ≤ L.length ∧ g = L.length - k ∧ i = .int .i64 k ∧ Hid (Below w.heap.size w wr) ∧ Hid (Half w.heap.size w wr L k M))
    case atStart => exact ⟨0, M0, Nat.zero_le _, rfl, rfl, below_alloc _ _, HST.out⟩
    case round =>
      obtain ⟨k, M, hk, hg, rfl, HB, HH⟩ := hrel
      clear HMK HCP
      by_cases hlt : k < L.length
      · have hx := List.getElem?_eq_getElem hlt
        have hcell := (cells_of_row HH.out.1 k _ hx).2.1
        rw [Nat.zero_add] at hcell
        have htx := TxAt.move (HH.out.2.2 k _ hx (Nat.le_refl _)) (Below.moves HB.out)
        have HC := Lib.hid (copyMods_any (M k) L[k].mods wr htx (HML.out _ (List.mem_of_getElem? hx)))
        have HW : Hid (∀ w1, Below wr.heap.size wr w1 → w1.cell? ⟨w.heap.size, k * 6 + 1, none⟩ = some (M k) ∧ w1.frozen? ⟨w.heap.size, k * 6 + 1, none⟩ = false) := fun w1 hb => by
          have h1 := HH.out.1.of_block (w' := w1) (hb.block _ HH.out.1.lt)
          have h2 := (cells_of_row h1 k _ hx).2.1
          rw [Nat.zero_add] at h2
          exact ⟨h2, h1.frozen _⟩
        have HS : Hid (∀ w1 u, Below wr.heap.size wr w1 → NewTx wr.heap.size w1 u L[k].mods → Half w.heap.size w (w1.setCell ⟨w.heap.size, k * 6 + 1, none⟩ u) L (k + 1) (fun j => if j = k then u else M j)) := fun w1 u hb hu => HH.out.step hb hx hu
        clear hx
        obtain ⟨am, cm, hmk, -, -⟩ := TxAt.form htx
        rw [hmk] at hcell HC HW
        clear htx
        go_wp2_with (first | (go_at_call 45; refine (HC.out).mono ?_; rintro e w1 ⟨⟨u, rfl, hu⟩, hb⟩; obtain ⟨n1, n2⟩ := HW.out _ hb; have HB1 := Lib.hid hb; have HU := Lib.hid hu; obtain ⟨ua, uc, rfl⟩ := NewTx.form hu; clear hb hu))
        go_roundg (L.length - (k + 1))
        case rel => exact ⟨k + 1, _, by omega, rfl, by go_num, (below_trans HB.out HB1.out).setCell (p := ⟨w.heap.size, k * 6 + 1, none⟩) (Nat.le_refl _) _, HS.out _ _ HB1.out HU.out⟩
        case measure => omega
      · have hkk : k = L.length := by omega
        have HN : Hid (NewLns w.heap.size wr (.slice (some ⟨w.heap.size, 0, none⟩) L.length L.length) L) := Or.inr ⟨hne, rfl, M, HH.out.1, fun j x hj => HH.out.2.1 j x hj (by rw [hkk]; exact (List.getElem?_eq_some_iff.1 hj).1)⟩
        clear hkk
        go_wp2
        go_ret
        exact ⟨⟨_, rfl, HN.out⟩, HB.out⟩

abbrev zeroc : Obj := .cells #[.string { data := #[] }, .string { data := #[] }, .string { data := #[] }, .int .i64 0, .int .i64 0, .string { data := #[] }, .slice none 0 0] 25
theorem frozen_new (w w' : World) (cs : Array Value) (t : TypeId) (hb : Below (w.alloc (.cells cs t)).heap.size (w.alloc (.cells cs t)) w') (i : Nat) : w'.frozen? ⟨w.heap.size, i, none⟩ = false := by
  have h := hb.block w.heap.size (by simp)
  rw [heap_alloc_new] at h
  simp [World.frozen?, h]

set_option maxHeartbeats 2000000 in
theorem copy_any (c : Cl) (m : Value) (w : World) (hm : LnsAt All w m c.lines) (hl : c.lines.length ≤ 1000000) (hml : ∀ x ∈ c.lines, x.mods.length ≤ 1000000) :
    Calls Tryd.prog 27 #[clv c m] w fun e w' => (∃ u, e = .returned (clv c u) ∧ NewLns (w.heap.size + 2) w' u c.lines) ∧ Below w.heap.size w w' := by
  have HC := Lib.hid (copyLines_any m c.lines ((w.alloc (boxc c m)).alloc zeroc) (LnsAt.move hm (Below.moves (below_trans (below_alloc w (boxc c m)) (below_alloc _ zeroc)))) hl hml)
  have HX : Hid (∀ w1, Below ((w.alloc (boxc c m)).alloc zeroc).heap.size ((w.alloc (boxc c m)).alloc zeroc) w1 → ClBox w1 w.heap.size c m ∧ w1.frozen? ⟨w.heap.size, 6, none⟩ = false ∧ (∀ i, w1.frozen? ⟨w.heap.size + 1, i, none⟩ = false) ∧ (∃ z, ClBox w1 (w.heap.size + 1) ⟨[], [], [], 0, 0, [], []⟩ z) ∧ Below w.heap.size w w1 ∧ w.heap.size + 2 ≤ w1.heap.size) := fun w1 hb => by
    have hb0 := below_trans (below_alloc (w.alloc (boxc c m)) zeroc) hb
    have e1 : (w.alloc (boxc c m)).heap.size = w.heap.size + 1 := by simp
    have e2 : ((w.alloc (boxc c m)).alloc zeroc).heap.size = w.heap.size + 2 := by simp
    refine ⟨(ClBox.new w c m _).grw hb0, frozen_new w w1 _ _ hb0 6, fun i => ?_, ⟨.slice none 0 0, ?_⟩, below_trans (below_alloc w _) hb0, by have := hb.size; omega⟩
    · have := frozen_new (w.alloc (boxc c m)) w1 _ _ hb i
      rwa [e1] at this
    · have := (ClBox.new (w.alloc (boxc c m)) ⟨[], [], [], 0, 0, [], []⟩ (.slice none 0 0) 25).grw hb
      rwa [e1] at this
  have e2 : ((w.alloc (boxc c m)).alloc zeroc).heap.size = w.heap.size + 2 := by simp
  have HN : Hid (∀ w1 u, NewLns ((w.alloc (boxc c m)).alloc zeroc).heap.size w1 u c.lines → NewLns (w.heap.size + 2) w1 u c.lines) := fun w1 u h => by rwa [e2] at h
  clear e2
  obtain ⟨a, k, rfl, -, -⟩ := LnsAt.form hm
  clear hm
  go_enter Tryd.func27, Tryd.ntmps27
  go_wp2_with (first | (go_at_call 36; refine (HC.out).mono ?_; rintro e w1 ⟨⟨u, rfl, hu⟩, hb⟩; obtain ⟨⟨n0, n1, n2, n3, n4, n5, n6⟩, hf, hf1, ⟨z, q0, q1, q2, q3, q4, q5, q6⟩, hb0, hsz⟩ := HX.out _ hb; have HU := Lib.hid (HN.out _ _ hu); have HB := Lib.hid hb0; have HSZ := Lib.hid hsz; obtain ⟨ua, uc, rfl⟩ := NewLns.form hu; clear hb hu hb0 hsz))
  refine bodyPost_ret (v := clv c (.slice ua c.lines.length uc)) (by simp [results, Tryd.results27, go_sem, n0, n1, n2, n3, n4, n5, n6, q0, q1, q2, q3, q4, q5, q6]) rfl ?_
  refine ⟨⟨_, rfl, HU.out.of_blocks fun b hb _ => ?_⟩, ?_⟩
  · have h0 : b ≠ w.heap.size := by omega
    have h1 : b ≠ w.heap.size + 1 := by omega
    repeat rw [Below.heap_setCell _ _ _ _ (by first | exact h0 | exact h1)]
  · exact ((((((((HB.out.setCell (p := ⟨w.heap.size, 6, none⟩) (by simp) _).setCell (p := ⟨w.heap.size + 1, 0, none⟩) (by simp) _).setCell (p := ⟨w.heap.size + 1, 1, none⟩) (by simp) _).setCell (p := ⟨w.heap.size + 1, 2, none⟩) (by simp) _).setCell (p := ⟨w.heap.size + 1, 3, none⟩) (by simp) _).setCell (p := ⟨w.heap.size + 1, 4, none⟩) (by simp) _).setCell (p := ⟨w.heap.size + 1, 5, none⟩) (by simp) _).setCell (p := ⟨w.heap.size + 1, 6, none⟩) (by simp) _)
end Go.Proofs.YtjgceppbhmmbjaaDoor.Cm
end
