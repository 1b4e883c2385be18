/-
  Services and claims as they lie in memory; what stands while the rest is written.
-/
import Derived.Test.YtpnkgkchpoehcaaLMath
import Derived.Test.YtpnkgkchpoehcaaQMem
import Derived.Test.YtpnkgkchpoehcaaDDate
import Derived.Lib.Hide
import Derived.BigQuiet
import Derived.Deep.LoopGhost
import Derived.Deep.RegionHeld3
import Derived.WalkLawsBesides
set_option linter.unusedSimpArgs false
namespace Go.Proofs.Ytpnkgkchpoehcaa.Cm
open Go.RowKit

abbrev lnv (x : Ln) (m : Value) : Value := .agg #[.string (mk x.proc), m, .int .i64 x.date, .int .i64 x.units, .int .i64 x.billed, .int .i64 x.prior]
abbrev clv (c : Cl) (m : Value) : Value := .agg #[.string (mk c.id), .string (mk c.mem), .string (mk c.fam), .int .i64 c.net, .int .i64 c.does, .string (mk c.ref), m]
def LnCells (w : World) (b o : Nat) (x : Ln) (m : Value) : Prop :=
  w.cell? ⟨b, o, none⟩ = some (.string (mk x.proc)) ∧ w.cell? ⟨b, o + 1, none⟩ = some m ∧ w.cell? ⟨b, o + 2, none⟩ = some (.int .i64 x.date) ∧ w.cell? ⟨b, o + 3, none⟩ = some (.int .i64 x.units) ∧ w.cell? ⟨b, o + 4, none⟩ = some (.int .i64 x.billed) ∧ w.cell? ⟨b, o + 5, none⟩ = some (.int .i64 x.prior)
def ClCells (w : World) (b o : Nat) (c : Cl) (m : Value) : Prop :=
  w.cell? ⟨b, o, none⟩ = some (.string (mk c.id)) ∧ w.cell? ⟨b, o + 1, none⟩ = some (.string (mk c.mem)) ∧ w.cell? ⟨b, o + 2, none⟩ = some (.string (mk c.fam)) ∧ w.cell? ⟨b, o + 3, none⟩ = some (.int .i64 c.net) ∧ w.cell? ⟨b, o + 4, none⟩ = some (.int .i64 c.does) ∧ w.cell? ⟨b, o + 5, none⟩ = some (.string (mk c.ref)) ∧ w.cell? ⟨b, o + 6, none⟩ = some m
def LnsAt (K : Nat → Prop) (w : World) (v : Value) (ls : List Ln) : Prop :=
  ∃ a c, v = .slice a ls.length c ∧ ls.length ≤ c ∧ c ≤ maxLen ∧ (ls = [] ∨ ∃ b o, a = some ⟨b, o, none⟩ ∧ K b ∧ b < w.heap.size ∧ ∀ (j : Nat) x, ls[j]? = some x → ∃ m, LnCells w b (o + j * 6) x m ∧ TxAt K w m x.mods)
def ClsAt (K : Nat → Prop) (w : World) (v : Value) (cs : List Cl) : Prop :=
  ∃ a c, v = .slice a cs.length c ∧ cs.length ≤ c ∧ c ≤ maxLen ∧ (cs = [] ∨ ∃ b o, a = some ⟨b, o, none⟩ ∧ K b ∧ b < w.heap.size ∧ ∀ (j : Nat) x, cs[j]? = some x → ∃ m, ClCells w b (o + j * 7) x m ∧ LnsAt K w m x.lines)

theorem LnCells.of {w w' : World} {b o : Nat} {x : Ln} {m : Value} (h : LnCells w b o x m) (he : w'.heap[b]? = w.heap[b]?) : LnCells w' b o x m := by
  obtain ⟨h0, h1, h2, h3, h4, h5⟩ := h
  refine ⟨?_, ?_, ?_, ?_, ?_, ?_⟩ <;> rw [World.cell?_of_block (w := w) he] <;> assumption
theorem ClCells.of {w w' : World} {b o : Nat} {x : Cl} {m : Value} (h : ClCells w b o x m) (he : w'.heap[b]? = w.heap[b]?) : ClCells w' b o x m := by
  obtain ⟨h0, h1, h2, h3, h4, h5, h6⟩ := h
  refine ⟨?_, ?_, ?_, ?_, ?_, ?_, ?_⟩ <;> rw [World.cell?_of_block (w := w) he] <;> assumption
theorem LnsAt.move {K K' : Nat → Prop} {w w' : World} {v : Value} {ls : List Ln} (h : LnsAt K w v ls) (hm : Moves K K' w w') : LnsAt K' w' v ls := by
  obtain ⟨a, c, rfl, h1, h2, h3⟩ := h
  refine ⟨a, c, rfl, h1, h2, h3.imp id ?_⟩
  rintro ⟨b, o, rfl, hk, hb, hc⟩
  obtain ⟨k', hh⟩ := hm.2 b hb hk
  refine ⟨b, o, rfl, k', Nat.lt_of_lt_of_le hb hm.1, fun j x hj => ?_⟩
  obtain ⟨m, hu, hr⟩ := hc j x hj
  exact ⟨m, hu.of hh, TxAt.move hr hm⟩
theorem ClsAt.move {K K' : Nat → Prop} {w w' : World} {v : Value} {cs : List Cl} (h : ClsAt K w v cs) (hm : Moves K K' w w') : ClsAt K' w' v cs := by
  obtain ⟨a, c, rfl, h1, h2, h3⟩ := h
  refine ⟨a, c, rfl, h1, h2, h3.imp id ?_⟩
  rintro ⟨b, o, rfl, hk, hb, hc⟩
  obtain ⟨k', hh⟩ := hm.2 b hb hk
  refine ⟨b, o, rfl, k', Nat.lt_of_lt_of_le hb hm.1, fun j x hj => ?_⟩
  obtain ⟨m, hu, hr⟩ := hc j x hj
  exact ⟨m, hu.of hh, LnsAt.move hr hm⟩
theorem LnsAt.get {K : Nat → Prop} {w : World} {a : Option Addr} {n c : Nat} {ls : List Ln} (h : LnsAt K w (.slice a n c) ls) (k : Nat) (hk : k < ls.length) :
    ∃ b o m, a = some ⟨b, o, none⟩ ∧ ls[k]? = some ls[k] ∧ LnCells w b (o + k * 6) ls[k] m ∧ TxAt K w m ls[k].mods := by
  obtain ⟨a', c', he, h1, h2, h3⟩ := h
  have ha : a = a' := by injection he
  subst ha
  rcases h3 with h | ⟨b, o, ha, _, _, hc⟩
  · subst h; simp at hk
  · have hx := List.getElem?_eq_getElem hk
    obtain ⟨m, q1, q2⟩ := hc k _ hx
    exact ⟨b, o, m, ha, hx, q1, q2⟩
theorem ClsAt.get {K : Nat → Prop} {w : World} {a : Option Addr} {n c : Nat} {ls : List Cl} (h : ClsAt K w (.slice a n c) ls) (k : Nat) (hk : k < ls.length) :
    ∃ b o m, a = some ⟨b, o, none⟩ ∧ ls[k]? = some ls[k] ∧ ClCells w b (o + k * 7) ls[k] m ∧ LnsAt K w m ls[k].lines := by
  obtain ⟨a', c', he, h1, h2, h3⟩ := h
  have ha : a = a' := by injection he
  subst ha
  rcases h3 with h | ⟨b, o, ha, _, _, hc⟩
  · subst h; simp at hk
  · have hx := List.getElem?_eq_getElem hk
    obtain ⟨m, q1, q2⟩ := hc k _ hx
    exact ⟨b, o, m, ha, hx, q1, q2⟩
theorem tx_get {K : Nat → Prop} {w : World} {a : Option Addr} {n c : Nat} {xs : List Tx} (h : TxAt K w (.slice a n c) xs) (k : Nat) (hk : k < xs.length) :
    ∃ b o, a = some ⟨b, o, none⟩ ∧ xs[k]? = some xs[k] ∧ w.cell? ⟨b, o + k, none⟩ = some (.string (mk xs[k])) := by
  obtain ⟨a', c', he, h1, h2, h3⟩ := h
  have ha : a = a' := by injection he
  subst ha
  rcases h3 with h | ⟨b, o, ha, _, _, hc⟩
  · subst h; simp at hk
  · have hx := List.getElem?_eq_getElem hk
    obtain ⟨m, q1, rfl⟩ := hc k _ hx
    exact ⟨b, o, ha, hx, q1⟩
theorem TxAt.form {K : Nat → Prop} {w : World} {v : Value} {xs : List Tx} (h : TxAt K w v xs) : ∃ a c, v = .slice a xs.length c ∧ xs.length ≤ c ∧ c ≤ 9223372036854775807 := by
  obtain ⟨a, c, rfl, h1, h2, _⟩ := h
  exact ⟨a, c, rfl, h1, by unfold maxLen at h2; exact h2⟩
theorem LnsAt.form {K : Nat → Prop} {w : World} {v : Value} {xs : List Ln} (h : LnsAt K w v xs) : ∃ a c, v = .slice a xs.length c ∧ xs.length ≤ c ∧ c ≤ 9223372036854775807 := by
  obtain ⟨a, c, rfl, h1, h2, _⟩ := h
  exact ⟨a, c, rfl, h1, by unfold maxLen at h2; exact h2⟩
theorem ClsAt.form {K : Nat → Prop} {w : World} {v : Value} {xs : List Cl} (h : ClsAt K w v xs) : ∃ a c, v = .slice a xs.length c ∧ xs.length ≤ c ∧ c ≤ 9223372036854775807 := by
  obtain ⟨a, c, rfl, h1, h2, _⟩ := h
  exact ⟨a, c, rfl, h1, by unfold maxLen at h2; exact h2⟩
theorem below_alloc (w : World) (o : Obj) : Below w.heap.size w (w.alloc o) := (Below.refl _ w).alloc (Nat.le_refl _) o
theorem below_trans {a b c : World} (h : Below a.heap.size a b) (k : Below b.heap.size b c) : Below a.heap.size a c := h.trans (k.mono h.size)
theorem below_drewq {w w' : World} (h : ∃ q, w' = w.drewN q) : Below w.heap.size w w' := by
  obtain ⟨q, rfl⟩ := h
  exact (Below.refl _ _).trans ⟨rfl, rfl, rfl, Nat.le_refl _, fun _ _ => rfl⟩
theorem below_eq {w w' : World} (h : w' = w) : Below w.heap.size w w' := by rw [h]; exact Below.refl _ _
/-- A service, a claim, in a box of the call's own. -/
def LnBox (w : World) (b : Nat) (x : Ln) (m : Value) : Prop :=
  w.cell? ⟨b, 0, none⟩ = some (.string (mk x.proc)) ∧ w.cell? ⟨b, 1, none⟩ = some m ∧ w.cell? ⟨b, 2, none⟩ = some (.int .i64 x.date) ∧ w.cell? ⟨b, 3, none⟩ = some (.int .i64 x.units) ∧ w.cell? ⟨b, 4, none⟩ = some (.int .i64 x.billed) ∧ w.cell? ⟨b, 5, none⟩ = some (.int .i64 x.prior)
def ClBox (w : World) (b : Nat) (c : Cl) (m : Value) : Prop :=
  w.cell? ⟨b, 0, none⟩ = some (.string (mk c.id)) ∧ w.cell? ⟨b, 1, none⟩ = some (.string (mk c.mem)) ∧ w.cell? ⟨b, 2, none⟩ = some (.string (mk c.fam)) ∧ w.cell? ⟨b, 3, none⟩ = some (.int .i64 c.net) ∧ w.cell? ⟨b, 4, none⟩ = some (.int .i64 c.does) ∧ w.cell? ⟨b, 5, none⟩ = some (.string (mk c.ref)) ∧ w.cell? ⟨b, 6, none⟩ = some m
theorem LnBox.new (w : World) (x : Ln) (m : Value) (t : TypeId) : LnBox (w.alloc (.cells #[.string (mk x.proc), m, .int .i64 x.date, .int .i64 x.units, .int .i64 x.billed, .int .i64 x.prior] t)) w.heap.size x m := by
  refine ⟨?_, ?_, ?_, ?_, ?_, ?_⟩ <;> simp
theorem ClBox.new (w : World) (c : Cl) (m : Value) (t : TypeId) : ClBox (w.alloc (.cells #[.string (mk c.id), .string (mk c.mem), .string (mk c.fam), .int .i64 c.net, .int .i64 c.does, .string (mk c.ref), m] t)) w.heap.size c m := by
  refine ⟨?_, ?_, ?_, ?_, ?_, ?_, ?_⟩ <;> simp
theorem LnBox.grw {w w' : World} {b : Nat} {x : Ln} {m : Value} (h : LnBox w b x m) (hb : Below w.heap.size w w') : LnBox w' b x m := by
  obtain ⟨h0, h1, h2, h3, h4, h5⟩ := h
  have hl := World.block_lt_of_cell? w _ h0
  refine ⟨?_, ?_, ?_, ?_, ?_, ?_⟩ <;> rw [World.cell?_of_block (w := w) (hb.block b hl)] <;> assumption
theorem ClBox.grw {w w' : World} {b : Nat} {x : Cl} {m : Value} (h : ClBox w b x m) (hb : Below w.heap.size w w') : ClBox w' b x m := by
  obtain ⟨h0, h1, h2, h3, h4, h5, h6⟩ := h
  have hl := World.block_lt_of_cell? w _ h0
  refine ⟨?_, ?_, ?_, ?_, ?_, ?_, ?_⟩ <;> rw [World.cell?_of_block (w := w) (hb.block b hl)] <;> assumption
end Go.Proofs.Ytpnkgkchpoehcaa.Cm
