/-
  Texts put together (merge.py): VHalf.
-/
import Derived.Deep.OwnRows
import Derived.Deep.Slices
import Derived.Test.YtpnkgkchpoehcaaMb27
/-
  A row of services that is made whole and then laid service by service.
-/
section
set_option linter.unusedSimpArgs false
set_option linter.unusedVariables false
set_option maxRecDepth 100000
namespace Go.Proofs.Ytpnkgkchpoehcaa.Sv
open Go.RowKit
open Bk (keepB below_alloc below_trans alloc_new)

def sr0 : Sr := ⟨[], 0, 0, []⟩
def srcl (s : Sr) (m : Value) : Nat → Value
  | 0 => .string (mk s.proc)
  | 1 => .int .i64 s.bi
  | 2 => .int .i64 s.paid
  | _ => m
def zcl : Nat → Value
  | 0 => .string ByteArray.empty
  | 1 => .int .i64 0
  | 2 => .int .i64 0
  | _ => .slice none 0 0
def hrow (L : List Sr) (M : Nat → Value) (k q : Nat) : Value := if q / 4 < k then srcl (L.getD (q / 4) sr0) (M (q / 4)) (q % 4) else zcl (q % 4)
/-- The first k services are laid, their adjustments in blocks from B on, none of them the row's. -/
def Half (B g : Nat) (w : World) (L : List Sr) (k : Nat) (M : Nat → Value) : Prop :=
  w.rowIs g Ts (L.length * 4) (hrow L M k) ∧ ∀ j s, L[j]? = some s → j < k → CasAt (fun b => B ≤ b ∧ b ≠ g) w (M j) s.cas
theorem run_make_svs (n : Nat) (hn : n ≤ 1000000) (w : World) : (Instr.makeSlice 28 (.int .i64 (n : Int)) (.int .i64 (n : Int))).run Try.prog w = .ok (.slice (some ⟨w.heap.size, 0, none⟩) n n) (w.alloc (.cells (madeCells #[.string ByteArray.empty, .int .i64 0, .int .i64 0, .slice none 0 0] (n * 4)) Ts)) := by
  obtain ⟨i, hi, hz, hs, hb⟩ := infos
  have hr := run_make (P := Try.prog) w 28 Ts i _ Try.underlying28 hi hz .i64 .i64 n n (by omega) (Int.le_refl _) (by rw [hb]; omega) (by omega)
  rw [hs] at hr
  simp only [Int.toNat_natCast] at hr
  rw [hr]
  rfl
theorem zcl_at (q : Nat) : (#[Value.string ByteArray.empty, .int .i64 0, .int .i64 0, .slice none 0 0] : Array Value)[q % 4]! = zcl (q % 4) := by
  have h : q % 4 = 0 ∨ q % 4 = 1 ∨ q % 4 = 2 ∨ q % 4 = 3 := by omega
  rcases h with h | h | h | h <;> rw [h] <;> rfl
theorem Half.start (B : Nat) (w : World) (L : List Sr) (M : Nat → Value) (n : Nat) (hn : n = L.length) : Half B w.heap.size (w.alloc (.cells (madeCells #[.string ByteArray.empty, .int .i64 0, .int .i64 0, .slice none 0 0] (n * 4)) Ts)) L 0 M := by
  subst hn
  refine ⟨?_, fun j s _ hj => absurd hj (by omega)⟩
  have h := World.rowIs_alloc w (madeCells #[.string ByteArray.empty, .int .i64 0, .int .i64 0, .slice none 0 0] (L.length * 4)) Ts (hrow L M 0) (fun i hi => by
    rw [size_madeCells] at hi
    unfold hrow madeCells
    rw [if_neg (by omega), ← zcl_at]
    simp [hi])
  rwa [size_madeCells] at h
theorem Half.lt {B g : Nat} {w : World} {L : List Sr} {k : Nat} {M : Nat → Value} (h : Half B g w L k M) : g < w.heap.size := h.1.lt
theorem Half.grw {B g : Nat} {w w' : World} {L : List Sr} {k : Nat} {M : Nat → Value} (h : Half B g w L k M) (hb : Below w.heap.size w w') : Half B g w' L k M :=
  ⟨h.1.of_block (hb.block g h.lt), fun j s hj hk => (h.2 j s hj hk).move ⟨hb.size, fun b hb' hkk => ⟨hkk, hb.block b hb'⟩⟩⟩
theorem hrow_set (L : List Sr) (M : Nat → Value) (k : Nat) (s : Sr) (hs : L[k]? = some s) (u : Value) (j : Nat) :
    (if j = k * 4 + 3 then u else if j = k * 4 + 2 then .int .i64 s.paid else if j = k * 4 + 1 then .int .i64 s.bi else if j = k * 4 then .string (mk s.proc) else hrow L M k j) = hrow L (fun i => if i = k then u else M i) (k + 1) j := by
  have hd : L.getD k sr0 = s := by rw [List.getD_eq_getElem?_getD, hs]; rfl
  unfold hrow
  by_cases hk : j / 4 = k
  · rw [if_pos (show j / 4 < k + 1 by omega), if_neg (show ¬ j / 4 < k by omega), hk, hd]
    rw [show (fun i => if i = k then u else M i) k = u from if_pos rfl]
    have h : j % 4 = 0 ∨ j % 4 = 1 ∨ j % 4 = 2 ∨ j % 4 = 3 := by omega
    rcases h with h | h | h | h
    · rw [if_neg (by omega), if_neg (by omega), if_neg (by omega), if_pos (by omega), h]; rfl
    · rw [if_neg (by omega), if_neg (by omega), if_pos (by omega), h]; rfl
    · rw [if_neg (by omega), if_pos (by omega), h]; rfl
    · rw [if_pos (by omega), h]; rfl
  · rw [if_neg (by omega), if_neg (by omega), if_neg (by omega), if_neg (by omega)]
    rw [show (fun i => if i = k then u else M i) (j / 4) = M (j / 4) from if_neg hk]
    by_cases h : j / 4 < k
    · rw [if_pos h, if_pos (by omega)]
    · rw [if_neg h, if_neg (by omega)]
theorem Half.step {B g : Nat} {w0 w : World} {L : List Sr} {k : Nat} {M : Nat → Value} (h : Half B g w0 L k M) (hB : B ≤ w0.heap.size) (hb : Below w0.heap.size w0 w) {s : Sr} (hs : L[k]? = some s) {u : Value} (hu : CasAt (fun b => w0.heap.size ≤ b) w u s.cas) :
    Half B g ((((w.setCell ⟨g, k * 4, none⟩ (.string (mk s.proc))).setCell ⟨g, k * 4 + 1, none⟩ (.int .i64 s.bi)).setCell ⟨g, k * 4 + 2, none⟩ (.int .i64 s.paid)).setCell ⟨g, k * 4 + 3, none⟩ u) L (k + 1) (fun i => if i = k then u else M i) := by
  have hg := h.lt
  have h1 := h.grw hb
  have hsz : ((((w.setCell ⟨g, k * 4, none⟩ (.string (mk s.proc))).setCell ⟨g, k * 4 + 1, none⟩ (.int .i64 s.bi)).setCell ⟨g, k * 4 + 2, none⟩ (.int .i64 s.paid)).setCell ⟨g, k * 4 + 3, none⟩ u).heap.size = w.heap.size := by simp
  have hkeep : ∀ b, b ≠ g → ((((w.setCell ⟨g, k * 4, none⟩ (.string (mk s.proc))).setCell ⟨g, k * 4 + 1, none⟩ (.int .i64 s.bi)).setCell ⟨g, k * 4 + 2, none⟩ (.int .i64 s.paid)).setCell ⟨g, k * 4 + 3, none⟩ u).heap[b]? = w.heap[b]? := fun b hne => by
    repeat rw [Below.heap_setCell _ _ _ _ hne]
  refine ⟨?_, fun j x hj hjk => ?_⟩
  · have r := (((h1.1.set (k * 4) (.string (mk s.proc))).set (k * 4 + 1) (.int .i64 s.bi)).set (k * 4 + 2) (.int .i64 s.paid)).set (k * 4 + 3) u
    exact r.congr fun i _ => hrow_set L M k s hs u i
  · by_cases e : j = k
    · subst e
      rw [hs] at hj
      obtain rfl := Option.some.inj hj
      show CasAt _ _ (if j = j then u else M j) _
      rw [if_pos rfl]
      exact hu.move ⟨by rw [hsz]; exact Nat.le_refl _, fun b hb' hk => ⟨⟨by omega, by omega⟩, hkeep b (by omega)⟩⟩
    · show CasAt _ _ (if j = k then u else M j) _
      rw [if_neg e]
      exact (h1.2 j x hj (by omega)).move ⟨by rw [hsz]; exact Nat.le_refl _, fun b hb' hk => ⟨hk, hkeep b hk.2⟩⟩
theorem Half.whole {K : Nat → Prop} {B g : Nat} {w : World} {L : List Sr} {k : Nat} {M : Nat → Value} (h : Half B g w L k M) (hk : L.length ≤ k) (hg : K g) (hK : ∀ b, B ≤ b → K b) (hl : L.length ≤ 1000000) : SvsAt K w (.slice (some ⟨g, 0, none⟩) L.length L.length) L := by
  refine ⟨_, _, rfl, Nat.le_refl _, by unfold maxLen; omega, Or.inr ⟨g, 0, rfl, hg, h.lt, fun j s hj => ?_⟩⟩
  have hjl := (List.getElem?_eq_some_iff.1 hj).1
  have hd : L.getD j sr0 = s := by rw [List.getD_eq_getElem?_getD, hj]; rfl
  have e : ∀ r, r < 4 → w.cell? ⟨g, 0 + j * 4 + r, none⟩ = some (srcl s (M j) r) := fun r hr => by
    rw [Nat.zero_add, h.1.cell (show j * 4 + r < L.length * 4 by omega)]
    unfold hrow
    rw [show (j * 4 + r) / 4 = j by omega, show (j * 4 + r) % 4 = r by omega, if_pos (by omega), hd]
  exact ⟨M j, ⟨e 0 (by omega), e 1 (by omega), e 2 (by omega), e 3 (by omega)⟩, (h.2 j s hj (by omega)).move (moves_weak w fun b _ k => hK b k.1)⟩
/-- Its cells, of a service that is laid next. -/
theorem Half.cells {B g : Nat} {w : World} {L : List Sr} {k : Nat} {M : Nat → Value} (h : Half B g w L k M) (hk : k < L.length) : (∃ v, w.cell? ⟨g, k * 4, none⟩ = some v) ∧ (∃ v, w.cell? ⟨g, k * 4 + 1, none⟩ = some v) ∧ (∃ v, w.cell? ⟨g, k * 4 + 2, none⟩ = some v) ∧ (∃ v, w.cell? ⟨g, k * 4 + 3, none⟩ = some v) :=
  ⟨⟨_, h.1.cell (by omega)⟩, ⟨_, h.1.cell (by omega)⟩, ⟨_, h.1.cell (by omega)⟩, ⟨_, h.1.cell (by omega)⟩⟩
end Go.Proofs.Ytpnkgkchpoehcaa.Sv
end
