/-
  Texts put together (merge.py): LMem, ZMem.
-/
import Derived.Lib.Hide
import Derived.BigQuiet
import Derived.Deep.LoopGhost
import Derived.Deep.RegionHeld3
import Derived.WalkLawsBesides
import Derived.Test.YtmoldgmfhcmceaaGreatDoorMp3
import Derived.Test.YtmoldgmfhcmceaaGreatDoorMp9
import Derived.Test.YtmoldgmfhcmceaaGreatDoorMp10
/-
  Services and claims as they lie in memory; what stands while the rest is written.
-/
section
set_option linter.unusedSimpArgs false
namespace Go.Proofs.YtmoldgmfhcmceaaGreatDoor.Cm
open Go.RowKit

abbrev lnv (x : Ln) (m : Value) : Value := .agg #[.string (mk x.proc), m, .int .i64 x.date, .int .i64 x.units, .int .i64 x.billed, .int .i64 x.prior]
abbrev clv (c : Cl) (m : Value) : Value := .agg #[.string (mk c.id), .string (mk c.mem), .string (mk c.fam), .int .i64 c.net, .int .i64 c.does, .string (mk c.ref), m]
def LnCells (w : World) (b o : Nat) (x : Ln) (m : Value) : Prop :=
  w.cell? ⟨b, o, none⟩ = some (.string (mk x.proc)) ∧ w.cell? ⟨b, o + 1, none⟩ = some m ∧ w.cell? ⟨b, o + 2, none⟩ = some (.int .i64 x.date) ∧ w.cell? ⟨b, o + 3, none⟩ = some (.int .i64 x.units) ∧ w.cell? ⟨b, o + 4, none⟩ = some (.int .i64 x.billed) ∧ w.cell? ⟨b, o + 5, none⟩ = some (.int .i64 x.prior)
def ClCells (w : World) (b o : Nat) (c : Cl) (m : Value) : Prop :=
  w.cell? ⟨b, o, none⟩ = some (.string (mk c.id)) ∧ w.cell? ⟨b, o + 1, none⟩ = some (.string (mk c.mem)) ∧ w.cell? ⟨b, o + 2, none⟩ = some (.string (mk c.fam)) ∧ w.cell? ⟨b, o + 3, none⟩ = some (.int .i64 c.net) ∧ w.cell? ⟨b, o + 4, none⟩ = some (.int .i64 c.does) ∧ w.cell? ⟨b, o + 5, none⟩ = some (.string (mk c.ref)) ∧ w.cell? ⟨b, o + 6, none⟩ = some m
def LnsAt (K : Nat → Prop) (w : World) (v : Value) (ls : List Ln) : Prop :=
  ∃ a c, v = .slice a ls.length c ∧ ls.length ≤ c ∧ c ≤ maxLen ∧ (ls = [] ∨ ∃ b o, a = some ⟨b, o, none⟩ ∧ K b ∧ b < w.heap.size ∧ ∀ (j : Nat) x, ls[j]? = some x → ∃ m, LnCells w b (o + j * 6) x m ∧ TxAt K w m x.mods)
def ClsAt (K : Nat → Prop) (w : World) (v : Value) (cs : List Cl) : Prop :=
  ∃ a c, v = .slice a cs.length c ∧ cs.length ≤ c ∧ c ≤ maxLen ∧ (cs = [] ∨ ∃ b o, a = some ⟨b, o, none⟩ ∧ K b ∧ b < w.heap.size ∧ ∀ (j : Nat) x, cs[j]? = some x → ∃ m, ClCells w b (o + j * 7) x m ∧ LnsAt K w m x.lines)

theorem LnCells.of {w w' : World} {b o : Nat} {x : Ln} {m : Value} (h : LnCells w b o x m) (he : w'.heap[b]? = w.heap[b]?) : LnCells w' b o x m := by
  obtain ⟨h0, h1, h2, h3, h4, h5⟩ := h
  refine ⟨?_, ?_, ?_, ?_, ?_, ?_⟩ <;> rw [World.cell?_of_block (w := w) he] <;> assumption
theorem ClCells.of {w w' : World} {b o : Nat} {x : Cl} {m : Value} (h : ClCells w b o x m) (he : w'.heap[b]? = w.heap[b]?) : ClCells w' b o x m := by
  obtain ⟨h0, h1, h2, h3, h4, h5, h6⟩ := h
  refine ⟨?_, ?_, ?_, ?_, ?_, ?_, ?_⟩ <;> rw [World.cell?_of_block (w := w) he] <;> assumption
theorem LnsAt.move {K K' : Nat → Prop} {w w' : World} {v : Value} {ls : List Ln} (h : LnsAt K w v ls) (hm : Moves K K' w w') : LnsAt K' w' v ls := by
  obtain ⟨a, c, rfl, h1, h2, h3⟩ := h
  refine ⟨a, c, rfl, h1, h2, h3.imp id ?_⟩
  rintro ⟨b, o, rfl, hk, hb, hc⟩
  obtain ⟨k', hh⟩ := hm.2 b hb hk
  refine ⟨b, o, rfl, k', Nat.lt_of_lt_of_le hb hm.1, fun j x hj => ?_⟩
  obtain ⟨m, hu, hr⟩ := hc j x hj
  exact ⟨m, hu.of hh, TxAt.move hr hm⟩
theorem ClsAt.move {K K' : Nat → Prop} {w w' : World} {v : Value} {cs : List Cl} (h : ClsAt K w v cs) (hm : Moves K K' w w') : ClsAt K' w' v cs := by
  obtain ⟨a, c, rfl, h1, h2, h3⟩ := h
  refine ⟨a, c, rfl, h1, h2, h3.imp id ?_⟩
  rintro ⟨b, o, rfl, hk, hb, hc⟩
  obtain ⟨k', hh⟩ := hm.2 b hb hk
  refine ⟨b, o, rfl, k', Nat.lt_of_lt_of_le hb hm.1, fun j x hj => ?_⟩
  obtain ⟨m, hu, hr⟩ := hc j x hj
  exact ⟨m, hu.of hh, LnsAt.move hr hm⟩
theorem LnsAt.get {K : Nat → Prop} {w : World} {a : Option Addr} {n c : Nat} {ls : List Ln} (h : LnsAt K w (.slice a n c) ls) (k : Nat) (hk : k < ls.length) :
    ∃ b o m, a = some ⟨b, o, none⟩ ∧ ls[k]? = some ls[k] ∧ LnCells w b (o + k * 6) ls[k] m ∧ TxAt K w m ls[k].mods := by
  obtain ⟨a', c', he, h1, h2, h3⟩ := h
  have ha : a = a' := by injection he
  subst ha
  rcases h3 with h | ⟨b, o, ha, _, _, hc⟩
  · subst h; simp at hk
  · have hx := List.getElem?_eq_getElem hk
    obtain ⟨m, q1, q2⟩ := hc k _ hx
    exact ⟨b, o, m, ha, hx, q1, q2⟩
theorem ClsAt.get {K : Nat → Prop} {w : World} {a : Option Addr} {n c : Nat} {ls : List Cl} (h : ClsAt K w (.slice a n c) ls) (k : Nat) (hk : k < ls.length) :
    ∃ b o m, a = some ⟨b, o, none⟩ ∧ ls[k]? = some ls[k] ∧ ClCells w b (o + k * 7) ls[k] m ∧ LnsAt K w m ls[k].lines := by
  obtain ⟨a', c', he, h1, h2, h3⟩ := h
  have ha : a = a' := by injection he
  subst ha
  rcases h3 with h | ⟨b, o, ha, _, _, hc⟩
  · subst h; simp at hk
  · have hx := List.getElem?_eq_getElem hk
    obtain ⟨m, q1, q2⟩ := hc k _ hx
    exact ⟨b, o, m, ha, hx, q1, q2⟩
theorem tx_get {K : Nat → Prop} {w : World} {a : Option Addr} {n c : Nat} {xs : List Tx} (h : TxAt K w (.slice a n c) xs) (k : Nat) (hk : k < xs.length) :
    ∃ b o, a = some ⟨b, o, none⟩ ∧ xs[k]? = some xs[k] ∧ w.cell? ⟨b, o + k, none⟩ = some (.string (mk xs[k])) := by
  obtain ⟨a', c', he, h1, h2, h3⟩ := h
  have ha : a = a' := by injection he
  subst ha
  rcases h3 with h | ⟨b, o, ha, _, _, hc⟩
  · subst h; simp at hk
  · have hx := List.getElem?_eq_getElem hk
    obtain ⟨m, q1, rfl⟩ := hc k _ hx
    exact ⟨b, o, ha, hx, q1⟩
theorem TxAt.form {K : Nat → Prop} {w : World} {v : Value} {xs : List Tx} (h : TxAt K w v xs) : ∃ a c, v = .slice a xs.length c ∧ xs.length ≤ c ∧ c ≤ 9223372036854775807 := by
  obtain ⟨a, c, rfl, h1, h2, _⟩ := h
  exact ⟨a, c, rfl, h1, by unfold maxLen at h2; exact h2⟩
theorem LnsAt.form {K : Nat → Prop} {w : World} {v : Value} {xs : List Ln} (h : LnsAt K w v xs) : ∃ a c, v = .slice a xs.length c ∧ xs.length ≤ c ∧ c ≤ 9223372036854775807 := by
  obtain ⟨a, c, rfl, h1, h2, _⟩ := h
  exact ⟨a, c, rfl, h1, by unfold maxLen at h2; exact h2⟩
theorem ClsAt.form {K : Nat → Prop} {w : World} {v : Value} {xs : List Cl} (h : ClsAt K w v xs) : ∃ a c, v = .slice a xs.length c ∧ xs.length ≤ c ∧ c ≤ 9223372036854775807 := by
  obtain ⟨a, c, rfl, h1, h2, _⟩ := h
  exact ⟨a, c, rfl, h1, by unfold maxLen at h2; exact h2⟩
theorem below_alloc (w : World) (o : Obj) : Below w.heap.size w (w.alloc o) := (Below.refl _ w).alloc (Nat.le_refl _) o
theorem below_trans {a b c : World} (h : Below a.heap.size a b) (k : Below b.heap.size b c) : Below a.heap.size a c := h.trans (k.mono h.size)
theorem below_drewq {w w' : World} (h : ∃ q, w' = w.drewN q) : Below w.heap.size w w' := by
  obtain ⟨q, rfl⟩ := h
  exact (Below.refl _ _).trans ⟨rfl, rfl, rfl, Nat.le_refl _, fun _ _ => rfl⟩
theorem below_eq {w w' : World} (h : w' = w) : Below w.heap.size w w' := by rw [h]; exact Below.refl _ _
theorem tab_below {w w' : World} (h : Da.Tab w) (hb : Below w.heap.size w w') : Da.Tab w' := fun i hi => by
  have c := h i hi
  rw [hb.cell (p := ⟨2, i, none⟩) (World.block_lt_of_cell? w ⟨2, i, none⟩ c)]
  exact c
/-- A service, a claim, in a box of the call's own. -/
def LnBox (w : World) (b : Nat) (x : Ln) (m : Value) : Prop :=
  w.cell? ⟨b, 0, none⟩ = some (.string (mk x.proc)) ∧ w.cell? ⟨b, 1, none⟩ = some m ∧ w.cell? ⟨b, 2, none⟩ = some (.int .i64 x.date) ∧ w.cell? ⟨b, 3, none⟩ = some (.int .i64 x.units) ∧ w.cell? ⟨b, 4, none⟩ = some (.int .i64 x.billed) ∧ w.cell? ⟨b, 5, none⟩ = some (.int .i64 x.prior)
def ClBox (w : World) (b : Nat) (c : Cl) (m : Value) : Prop :=
  w.cell? ⟨b, 0, none⟩ = some (.string (mk c.id)) ∧ w.cell? ⟨b, 1, none⟩ = some (.string (mk c.mem)) ∧ w.cell? ⟨b, 2, none⟩ = some (.string (mk c.fam)) ∧ w.cell? ⟨b, 3, none⟩ = some (.int .i64 c.net) ∧ w.cell? ⟨b, 4, none⟩ = some (.int .i64 c.does) ∧ w.cell? ⟨b, 5, none⟩ = some (.string (mk c.ref)) ∧ w.cell? ⟨b, 6, none⟩ = some m
theorem LnBox.new (w : World) (x : Ln) (m : Value) (t : TypeId) : LnBox (w.alloc (.cells #[.string (mk x.proc), m, .int .i64 x.date, .int .i64 x.units, .int .i64 x.billed, .int .i64 x.prior] t)) w.heap.size x m := by
  refine ⟨?_, ?_, ?_, ?_, ?_, ?_⟩ <;> simp
theorem ClBox.new (w : World) (c : Cl) (m : Value) (t : TypeId) : ClBox (w.alloc (.cells #[.string (mk c.id), .string (mk c.mem), .string (mk c.fam), .int .i64 c.net, .int .i64 c.does, .string (mk c.ref), m] t)) w.heap.size c m := by
  refine ⟨?_, ?_, ?_, ?_, ?_, ?_, ?_⟩ <;> simp
theorem LnBox.grw {w w' : World} {b : Nat} {x : Ln} {m : Value} (h : LnBox w b x m) (hb : Below w.heap.size w w') : LnBox w' b x m := by
  obtain ⟨h0, h1, h2, h3, h4, h5⟩ := h
  have hl := World.block_lt_of_cell? w _ h0
  refine ⟨?_, ?_, ?_, ?_, ?_, ?_⟩ <;> rw [World.cell?_of_block (w := w) (hb.block b hl)] <;> assumption
theorem ClBox.grw {w w' : World} {b : Nat} {x : Cl} {m : Value} (h : ClBox w b x m) (hb : Below w.heap.size w w') : ClBox w' b x m := by
  obtain ⟨h0, h1, h2, h3, h4, h5, h6⟩ := h
  have hl := World.block_lt_of_cell? w _ h0
  refine ⟨?_, ?_, ?_, ?_, ?_, ?_, ?_⟩ <;> rw [World.cell?_of_block (w := w) (hb.block b hl)] <;> assumption
end Go.Proofs.YtmoldgmfhcmceaaGreatDoor.Cm
end

/-
  Rows of a fee table as they lie in memory; what stands while the rest is written.
-/
section
set_option linter.unusedSimpArgs false
set_option linter.unusedVariables false
namespace Go.Proofs.YtmoldgmfhcmceaaGreatDoor.Fe
open Go.RowKit
open Wo (keepB box_cell box_two heap_far below_alloc below_trans)

def fc (f : Fee) : List Value := [.string (mk f.proc), .string (mk f.mod), .int .i64 f.net, .int .i64 f.frm, .int .i64 f.cents]
abbrev fev (f : Fee) : Value := .agg #[.string (mk f.proc), .string (mk f.mod), .int .i64 f.net, .int .i64 f.frm, .int .i64 f.cents]
abbrev plv (f : Fee) : Value := .agg #[.string (mk f.proc), .string (mk f.mod), .int .i64 f.net, .int .i64 f.frm]
def fcs : List Fee → List Value
  | [] => []
  | f :: r => .string (mk f.proc) :: .string (mk f.mod) :: .int .i64 f.net :: .int .i64 f.frm :: .int .i64 f.cents :: fcs r
theorem fcs_cons (f : Fee) (r : List Fee) : fcs (f :: r) = fc f ++ fcs r := rfl
theorem fcs_app (a b : List Fee) : fcs (a ++ b) = fcs a ++ fcs b := by induction a <;> simp_all [fcs]
theorem fcs_len (a : List Fee) : (fcs a).length = a.length * 5 := by induction a <;> simp_all [fcs]; omega
theorem fcs_at : ∀ (a : List Fee) (j : Nat) (x : Fee), a[j]? = some x → ∀ i, i < 5 → (fcs a)[j * 5 + i]? = (fc x)[i]?
  | [], j, x, h, _, _ => by simp at h
  | y :: r, 0, x, h, i, hi => by
    simp at h; subst h
    match i, hi with
    | 0, _ => rfl
    | 1, _ => rfl
    | 2, _ => rfl
    | 3, _ => rfl
    | 4, _ => rfl
  | y :: r, j + 1, x, h, i, hi => by
    have := fcs_at r j x (by simpa using h) i hi
    rw [show (j + 1) * 5 + i = (j * 5 + i) + 5 by omega]
    simpa [fcs] using this
theorem fcs_one : ∀ (a : List Fee), ∀ u ∈ fcs a, u.oneCell' = true
  | [], u, h => by simp [fcs] at h
  | f :: r, u, h => by
    have ih := fcs_one r
    simp only [fcs, List.mem_cons] at h
    rcases h with rfl | rfl | rfl | rfl | rfl | h
    all_goals first | rfl | exact ih u h
def FeCells (w : World) (b o : Nat) (f : Fee) : Prop :=
  w.cell? ⟨b, o, none⟩ = some (.string (mk f.proc)) ∧ w.cell? ⟨b, o + 1, none⟩ = some (.string (mk f.mod)) ∧ w.cell? ⟨b, o + 2, none⟩ = some (.int .i64 f.net) ∧ w.cell? ⟨b, o + 3, none⟩ = some (.int .i64 f.frm) ∧ w.cell? ⟨b, o + 4, none⟩ = some (.int .i64 f.cents)
theorem FeCells.of {w w' : World} {b o : Nat} {x : Fee} (h : FeCells w b o x) (he : w'.heap[b]? = w.heap[b]?) : FeCells w' b o x := by
  obtain ⟨h0, h1, h2, h3, h4⟩ := h
  refine ⟨?_, ?_, ?_, ?_, ?_⟩ <;> rw [World.cell?_of_block (w := w) he] <;> assumption
def FesAt (K : Nat → Prop) (w : World) (v : Value) (l : List Fee) : Prop :=
  ∃ a c, v = .slice a l.length c ∧ l.length ≤ c ∧ c ≤ maxLen ∧ (l = [] ∨ ∃ b o, a = some ⟨b, o, none⟩ ∧ K b ∧ b < w.heap.size ∧ ∀ (j : Nat) x, l[j]? = some x → FeCells w b (o + j * 5) x)
theorem FesAt.move {K K' : Nat → Prop} {w w' : World} {v : Value} {l : List Fee} (h : FesAt K w v l) (hm : Moves K K' w w') : FesAt K' w' v l := by
  obtain ⟨a, c, rfl, h1, h2, h3⟩ := h
  refine ⟨a, c, rfl, h1, h2, h3.imp id ?_⟩
  rintro ⟨b, o, rfl, hk, hb, hc⟩
  obtain ⟨k', hh⟩ := hm.2 b hb hk
  exact ⟨b, o, rfl, k', Nat.lt_of_lt_of_le hb hm.1, fun j x hj => (hc j x hj).of hh⟩
theorem FesAt.grw {w w' : World} {v : Value} {l : List Fee} (h : FesAt All w v l) (hb : Below w.heap.size w w') : FesAt All w' v l := h.move (Below.moves hb)
theorem FesAt.nil (K : Nat → Prop) (w : World) : FesAt K w (.slice none 0 0) [] := ⟨none, 0, rfl, by simp, by simp [maxLen], Or.inl rfl⟩
theorem FesAt.form {K : Nat → Prop} {w : World} {v : Value} {xs : List Fee} (h : FesAt K w v xs) : ∃ a c, v = .slice a xs.length c ∧ xs.length ≤ c ∧ c ≤ 9223372036854775807 := by
  obtain ⟨a, c, rfl, h1, h2, _⟩ := h
  exact ⟨a, c, rfl, h1, by unfold maxLen at h2; exact h2⟩
theorem FesAt.get {K : Nat → Prop} {w : World} {a : Option Addr} {n c : Nat} {ls : List Fee} (h : FesAt K w (.slice a n c) ls) (k : Nat) (hk : k < ls.length) :
    ∃ b o, a = some ⟨b, o, none⟩ ∧ b < w.heap.size ∧ ls[k]? = some ls[k] ∧ FeCells w b (o + k * 5) ls[k] := by
  obtain ⟨a', c', he, h1, h2, h3⟩ := h
  have ha : a = a' := by injection he
  subst ha
  rcases h3 with h | ⟨b, o, ha, _, hb, hc⟩
  · subst h; simp at hk
  · have hx := List.getElem?_eq_getElem hk
    exact ⟨b, o, ha, hb, hx, hc k _ hx⟩
theorem fes_of_own {K : Nat → Prop} {w : World} {base : Nat} {v : Value} {l : List Fee} (h : w.ownsRow base 45 5 v l.length (fcs l)) (hK : ∀ b, v.ownBlock = some b → K b) : FesAt K w v l := by
  obtain ⟨hl, h⟩ := h
  rcases h with ⟨rfl, h0⟩ | ⟨g, cap, cur, rfl, _, hg, h1, h2, hs, ht⟩
  · obtain rfl := List.length_eq_zero_iff.1 h0
    exact FesAt.nil _ _
  · refine ⟨_, cap, rfl, h1, h2, Or.inr ⟨g, 0, rfl, hK g rfl, (Array.getElem?_eq_some_iff.1 hg).1, fun j x hj => ?_⟩⟩
    have hjl : j < l.length := (List.getElem?_eq_some_iff.1 hj).1
    have e : ∀ i, i < 5 → w.cell? ⟨g, 0 + j * 5 + i, none⟩ = (fc x)[i]? := fun i hi => by
      have q := fcs_at l j x hj i hi
      rw [← ht, List.getElem?_take, if_pos (by omega)] at q
      rw [cell_of_row w g _ cur _ (0, 0) hg, Nat.zero_add]
      simpa using q
    exact ⟨e 0 (by omega), e 1 (by omega), e 2 (by omega), e 3 (by omega), e 4 (by omega)⟩
theorem infoF : ∃ i, Tryz.prog.info? 45 = some i ∧ i.zero = some (.agg #[.string ByteArray.empty, .string ByteArray.empty, .int .i64 0, .int .i64 0, .int .i64 0]) ∧ i.size = 5 ∧ i.bytes = 56 := by
  have hi : (Tryz.prog.info? 45).map (fun i => (i.zero, i.size, i.bytes)) = some (some (.agg #[.string ByteArray.empty, .string ByteArray.empty, .int .i64 0, .int .i64 0, .int .i64 0]), 5, 56) := by kernel_rfl
  cases hq : Tryz.prog.info? 45 with
  | none => rw [hq] at hi; cases hi
  | some i =>
    rw [hq] at hi
    simp only [Option.map_some, Option.some.injEq, Prod.mk.injEq] at hi
    exact ⟨i, rfl, hi⟩
/-- What a call leaves that only draws and makes memory: all of it, and it never goes back in the drawn. -/
def Grew (w w' : World) : Prop := Below w.heap.size w w' ∧ w.drawn ≤ w'.drawn
theorem Grew.refl (w : World) : Grew w w := ⟨Below.refl _ _, Nat.le_refl _⟩
theorem Grew.trans {a b c : World} (h : Grew a b) (k : Grew b c) : Grew a c := ⟨below_trans h.1 k.1, Nat.le_trans h.2 k.2⟩
theorem Grew.alloc {a b : World} (h : Grew a b) (o : Obj) : Grew a (b.alloc o) := ⟨below_trans h.1 (below_alloc b o), h.2⟩
theorem Grew.drew {a b : World} (h : Grew a b) : Grew a b.drew := ⟨Below.drew h.1, Nat.le_trans h.2 (Nat.le_succ _)⟩
end Go.Proofs.YtmoldgmfhcmceaaGreatDoor.Fe
end
