/-
  Conditions, sets, rules and plans as they lie in memory; what stands while the rest is written.
-/
import Derived.Test.YtdppelkfcnbgbaaPSize
import Derived.Test.YtdppelkfcnbgbaaWMem
import Derived.Lib.Hide
import Derived.Deep.DeepCutAuto
import Derived.BigQuiet
import Derived.Deep.LoopGhost
import Derived.Deep.RegionHeld3
import Derived.WalkLawsBesides
set_option linter.unusedSimpArgs false
set_option linter.unusedVariables false
namespace Go.Proofs.Ytdppelkfcnbgbaa.Pl
open Go.RowKit

abbrev Big : Nat := 281474976710656
/-- A condition's own parts: numbers that are int64, texts that memory can hold. -/
def Ok1 (c : Cd) : Prop := Cm.I64 c.kind ∧ Cm.I64 c.n ∧ c.lo.length ≤ Big ∧ c.hi.length ≤ Big ∧ c.kids.length ≤ Big
abbrev cdv (c : Cd) (m : Value) : Value := .agg #[.int .i64 c.kind, .string (mk c.lo), .string (mk c.hi), .int .i64 c.n, m]
abbrev stv (s : St) : Value := .agg #[.int .i64 s.what, .int .i64 s.n]
abbrev ruv (r : Ru) (k u s : Value) : Value := .agg #[.int .i64 r.rank, .int .i64 r.cif.kind, .string (mk r.cif.lo), .string (mk r.cif.hi), .int .i64 r.cif.n, k, u, s]
abbrev pnv (p : Pn) (m : Value) : Value := .agg #[.int .i64 p.mode, .int .i64 p.indDed, .int .i64 p.famDed, .int .i64 p.indOop, .int .i64 p.famOop, m]
def CdCells (w : World) (b o : Nat) (c : Cd) (m : Value) : Prop :=
  w.cell? ⟨b, o, none⟩ = some (.int .i64 c.kind) ∧ w.cell? ⟨b, o + 1, none⟩ = some (.string (mk c.lo)) ∧ w.cell? ⟨b, o + 2, none⟩ = some (.string (mk c.hi)) ∧ w.cell? ⟨b, o + 3, none⟩ = some (.int .i64 c.n) ∧ w.cell? ⟨b, o + 4, none⟩ = some m
/-- One storey of a row of conditions: what lies in them is told by P. -/
def KsStep (K : Nat → Prop) (w : World) (P : Value → List Cd → Prop) (v : Value) (ks : List Cd) : Prop :=
  ∃ (a : Option Addr) (c : Nat) (M : Nat → Value), v = .slice a ks.length c ∧ ks.length ≤ c ∧ c ≤ maxLen ∧ (∀ x ∈ ks, Ok1 x) ∧
    (ks = [] ∨ ∃ b o, a = some ⟨b, o, none⟩ ∧ K b ∧ b < w.heap.size ∧ ∀ (j : Nat) x, ks[j]? = some x → CdCells w b (o + j * 5) x (M j)) ∧
    ∀ (j : Nat) x, ks[j]? = some x → P (M j) x.kids
/-- A row of conditions, with all that lies in them: the least that every storey is of. -/
def KsAt (K : Nat → Prop) (w : World) (v : Value) (ks : List Cd) : Prop :=
  ∀ P : Value → List Cd → Prop, (∀ v ks, KsStep K w P v ks → P v ks) → P v ks
theorem KsAt.mk {K : Nat → Prop} {w : World} {v : Value} {ks : List Cd} (a : Option Addr) (c : Nat) (M : Nat → Value) (hv : v = .slice a ks.length c) (hc : ks.length ≤ c) (hm : c ≤ maxLen)
    (hok : ∀ x ∈ ks, Ok1 x) (hcells : ks = [] ∨ ∃ b o, a = some ⟨b, o, none⟩ ∧ K b ∧ b < w.heap.size ∧ ∀ (j : Nat) x, ks[j]? = some x → CdCells w b (o + j * 5) x (M j))
    (hkids : ∀ (j : Nat) x, ks[j]? = some x → KsAt K w (M j) x.kids) : KsAt K w v ks :=
  fun P h => h v ks ⟨a, c, M, hv, hc, hm, hok, hcells, fun j x hj => hkids j x hj P h⟩
theorem KsAt.opened {K : Nat → Prop} {w : World} {v : Value} {ks : List Cd} (h : KsAt K w v ks) : KsStep K w (KsAt K w) v ks := by
  refine h (KsStep K w (KsAt K w)) ?_
  rintro v ks ⟨a, c, M, hv, hc, hm, hok, hcells, hk⟩
  refine ⟨a, c, M, hv, hc, hm, hok, hcells, fun j x hj => ?_⟩
  obtain ⟨a', c', M', hv', hc', hm', hok', hcells', hk'⟩ := hk j x hj
  exact KsAt.mk a' c' M' hv' hc' hm' hok' hcells' hk'
theorem CdCells.of {w w' : World} {b o : Nat} {x : Cd} {m : Value} (h : CdCells w b o x m) (he : w'.heap[b]? = w.heap[b]?) : CdCells w' b o x m := by
  obtain ⟨h0, h1, h2, h3, h4⟩ := h
  refine ⟨?_, ?_, ?_, ?_, ?_⟩ <;> rw [World.cell?_of_block (w := w) he] <;> assumption
theorem KsAt.move {K K' : Nat → Prop} {w w' : World} {v : Value} {ks : List Cd} (h : KsAt K w v ks) (hm : Moves K K' w w') : KsAt K' w' v ks := by
  refine h (KsAt K' w') ?_
  rintro v ks ⟨a, c, M, hv, hc, hx, hok, hcells, ih⟩
  refine KsAt.mk a c M hv hc hx hok (hcells.imp id ?_) ih
  rintro ⟨b, o, rfl, hk, hb, hcc⟩
  obtain ⟨k', hh⟩ := hm.2 b hb hk
  exact ⟨b, o, rfl, k', Nat.lt_of_lt_of_le hb hm.1, fun j x hj => (hcc j x hj).of hh⟩
theorem KsAt.nil (K : Nat → Prop) (w : World) : KsAt K w (.slice none 0 0) [] := KsAt.mk none 0 (fun _ => .slice none 0 0) rfl (by simp) (by simp [maxLen]) (by simp) (Or.inl rfl) (by simp)
theorem KsAt.form {K : Nat → Prop} {w : World} {v : Value} {ks : List Cd} (h : KsAt K w v ks) : ∃ a c, v = .slice a ks.length c ∧ ks.length ≤ c ∧ c ≤ 9223372036854775807 := by
  obtain ⟨a, c, M, rfl, h1, h2, _⟩ := h.opened
  exact ⟨a, c, rfl, h1, by unfold maxLen at h2; exact h2⟩
theorem KsAt.get {K : Nat → Prop} {w : World} {a : Option Addr} {n c : Nat} {ks : List Cd} (h : KsAt K w (.slice a n c) ks) (k : Nat) (hk : k < ks.length) :
    ∃ b o m, a = some ⟨b, o, none⟩ ∧ b < w.heap.size ∧ ks[k]? = some ks[k] ∧ CdCells w b (o + k * 5) ks[k] m ∧ KsAt K w m ks[k].kids ∧ Ok1 ks[k] := by
  obtain ⟨a', c', M, he, h1, h2, hok, h3, h4⟩ := h.opened
  have ha : a = a' := by injection he
  subst ha
  rcases h3 with h | ⟨b, o, ha, _, hb, hc⟩
  · subst h; simp at hk
  · have hx := List.getElem?_eq_getElem hk
    exact ⟨b, o, M k, ha, hb, hx, hc k _ hx, h4 k _ hx, hok _ (List.getElem_mem hk)⟩

/-! ### Sets -/
def StsAt (K : Nat → Prop) (w : World) (v : Value) (ss : List St) : Prop :=
  ∃ a c, v = .slice a ss.length c ∧ ss.length ≤ c ∧ c ≤ maxLen ∧ ss.length ≤ Big ∧ (∀ x ∈ ss, Cm.I64 x.what ∧ Cm.I64 x.n) ∧ (ss = [] ∨ ∃ b o, a = some ⟨b, o, none⟩ ∧ K b ∧ b < w.heap.size ∧ ∀ (j : Nat) x, ss[j]? = some x → w.cell? ⟨b, o + j * 2, none⟩ = some (.int .i64 x.what) ∧ w.cell? ⟨b, o + j * 2 + 1, none⟩ = some (.int .i64 x.n))
theorem StsAt.move {K K' : Nat → Prop} {w w' : World} {v : Value} {ss : List St} (h : StsAt K w v ss) (hm : Moves K K' w w') : StsAt K' w' v ss := by
  obtain ⟨a, c, rfl, h1, h2, h4, h5, h3⟩ := h
  refine ⟨a, c, rfl, h1, h2, h4, h5, h3.imp id ?_⟩
  rintro ⟨b, o, rfl, hk, hb, hc⟩
  obtain ⟨k', hh⟩ := hm.2 b hb hk
  refine ⟨b, o, rfl, k', Nat.lt_of_lt_of_le hb hm.1, fun j x hj => ?_⟩
  obtain ⟨q1, q2⟩ := hc j x hj
  exact ⟨by rw [World.cell?_of_block (w := w) hh]; exact q1, by rw [World.cell?_of_block (w := w) hh]; exact q2⟩
theorem StsAt.nil (K : Nat → Prop) (w : World) : StsAt K w (.slice none 0 0) [] := ⟨none, 0, rfl, by simp, by simp [maxLen], by simp, by simp, Or.inl rfl⟩
theorem StsAt.form {K : Nat → Prop} {w : World} {v : Value} {ss : List St} (h : StsAt K w v ss) : ∃ a c, v = .slice a ss.length c ∧ ss.length ≤ c ∧ c ≤ 9223372036854775807 ∧ ss.length ≤ Big := by
  obtain ⟨a, c, rfl, h1, h2, h3, _⟩ := h
  exact ⟨a, c, rfl, h1, by unfold maxLen at h2; exact h2, h3⟩
theorem StsAt.get {K : Nat → Prop} {w : World} {a : Option Addr} {n c : Nat} {ss : List St} (h : StsAt K w (.slice a n c) ss) (k : Nat) (hk : k < ss.length) :
    ∃ b o, a = some ⟨b, o, none⟩ ∧ b < w.heap.size ∧ ss[k]? = some ss[k] ∧ w.cell? ⟨b, o + k * 2, none⟩ = some (.int .i64 ss[k].what) ∧ w.cell? ⟨b, o + k * 2 + 1, none⟩ = some (.int .i64 ss[k].n) ∧ Cm.I64 ss[k].what ∧ Cm.I64 ss[k].n := by
  obtain ⟨a', c', he, h1, h2, _, hok, h3⟩ := h
  have ha : a = a' := by injection he
  subst ha
  rcases h3 with h | ⟨b, o, ha, _, hb, hc⟩
  · subst h; simp at hk
  · have hx := List.getElem?_eq_getElem hk
    obtain ⟨q1, q2⟩ := hc k _ hx
    have := hok _ (List.getElem_mem hk)
    exact ⟨b, o, ha, hb, hx, q1, q2, this.1, this.2⟩

/-! ### Rules -/
def RuCells (w : World) (b o : Nat) (r : Ru) (k u s : Value) : Prop :=
  w.cell? ⟨b, o, none⟩ = some (.int .i64 r.rank) ∧ w.cell? ⟨b, o + 1, none⟩ = some (.int .i64 r.cif.kind) ∧ w.cell? ⟨b, o + 2, none⟩ = some (.string (mk r.cif.lo)) ∧ w.cell? ⟨b, o + 3, none⟩ = some (.string (mk r.cif.hi)) ∧ w.cell? ⟨b, o + 4, none⟩ = some (.int .i64 r.cif.n) ∧ w.cell? ⟨b, o + 5, none⟩ = some k ∧ w.cell? ⟨b, o + 6, none⟩ = some u ∧ w.cell? ⟨b, o + 7, none⟩ = some s
theorem RuCells.of {w w' : World} {b o : Nat} {x : Ru} {k u s : Value} (h : RuCells w b o x k u s) (he : w'.heap[b]? = w.heap[b]?) : RuCells w' b o x k u s := by
  obtain ⟨h0, h1, h2, h3, h4, h5, h6, h7⟩ := h
  refine ⟨?_, ?_, ?_, ?_, ?_, ?_, ?_, ?_⟩ <;> rw [World.cell?_of_block (w := w) he] <;> assumption
/-- What lies in a rule's three rows. -/
def RuIn (K : Nat → Prop) (w : World) (r : Ru) (k u s : Value) : Prop := Cm.I64 r.rank ∧ Ok1 r.cif ∧ r.unl.length ≤ Big ∧ KsAt K w k r.cif.kids ∧ KsAt K w u r.unl ∧ StsAt K w s r.sets
theorem RuIn.move {K K' : Nat → Prop} {w w' : World} {r : Ru} {k u s : Value} (h : RuIn K w r k u s) (hm : Moves K K' w w') : RuIn K' w' r k u s :=
  ⟨h.1, h.2.1, h.2.2.1, h.2.2.2.1.move hm, h.2.2.2.2.1.move hm, h.2.2.2.2.2.move hm⟩
def RusAt (K : Nat → Prop) (w : World) (v : Value) (rs : List Ru) : Prop :=
  ∃ a c, v = .slice a rs.length c ∧ rs.length ≤ c ∧ c ≤ maxLen ∧ rs.length ≤ Big ∧ (rs = [] ∨ ∃ b o, a = some ⟨b, o, none⟩ ∧ K b ∧ b < w.heap.size ∧ ∀ (j : Nat) x, rs[j]? = some x → ∃ k u s, RuCells w b (o + j * 8) x k u s ∧ RuIn K w x k u s)
theorem RusAt.move {K K' : Nat → Prop} {w w' : World} {v : Value} {rs : List Ru} (h : RusAt K w v rs) (hm : Moves K K' w w') : RusAt K' w' v rs := by
  obtain ⟨a, c, rfl, h1, h2, h4, h3⟩ := h
  refine ⟨a, c, rfl, h1, h2, h4, h3.imp id ?_⟩
  rintro ⟨b, o, rfl, hk, hb, hc⟩
  obtain ⟨k', hh⟩ := hm.2 b hb hk
  refine ⟨b, o, rfl, k', Nat.lt_of_lt_of_le hb hm.1, fun j x hj => ?_⟩
  obtain ⟨k, u, s, q1, q2⟩ := hc j x hj
  exact ⟨k, u, s, q1.of hh, q2.move hm⟩
theorem RusAt.nil (K : Nat → Prop) (w : World) : RusAt K w (.slice none 0 0) [] := ⟨none, 0, rfl, by simp, by simp [maxLen], by simp, Or.inl rfl⟩
theorem RusAt.form {K : Nat → Prop} {w : World} {v : Value} {rs : List Ru} (h : RusAt K w v rs) : ∃ a c, v = .slice a rs.length c ∧ rs.length ≤ c ∧ c ≤ 9223372036854775807 ∧ rs.length ≤ Big := by
  obtain ⟨a, c, rfl, h1, h2, h3, _⟩ := h
  exact ⟨a, c, rfl, h1, by unfold maxLen at h2; exact h2, h3⟩
theorem RusAt.get {K : Nat → Prop} {w : World} {a : Option Addr} {n c : Nat} {rs : List Ru} (h : RusAt K w (.slice a n c) rs) (k : Nat) (hk : k < rs.length) :
    ∃ b o q u s, a = some ⟨b, o, none⟩ ∧ b < w.heap.size ∧ rs[k]? = some rs[k] ∧ RuCells w b (o + k * 8) rs[k] q u s ∧ RuIn K w rs[k] q u s := by
  obtain ⟨a', c', he, h1, h2, _, h3⟩ := h
  have ha : a = a' := by injection he
  subst ha
  rcases h3 with h | ⟨b, o, ha, _, hb, hc⟩
  · subst h; simp at hk
  · have hx := List.getElem?_eq_getElem hk
    obtain ⟨q, u, s, q1, q2⟩ := hc k _ hx
    exact ⟨b, o, q, u, s, ha, hb, hx, q1, q2⟩
/-- A plan's numbers are int64. -/
def PnOk (p : Pn) : Prop := Cm.I64 p.mode ∧ Cm.I64 p.indDed ∧ Cm.I64 p.famDed ∧ Cm.I64 p.indOop ∧ Cm.I64 p.famOop
theorem below_alloc (w : World) (o : Obj) : Below w.heap.size w (w.alloc o) := (Below.refl _ w).alloc (Nat.le_refl _) o
theorem below_trans {a b c : World} (h : Below a.heap.size a b) (k : Below b.heap.size b c) : Below a.heap.size a c := h.trans (k.mono h.size)
theorem KsAt.grw {w w' : World} {v : Value} {ks : List Cd} (h : KsAt All w v ks) (hb : Below w.heap.size w w') : KsAt All w' v ks := h.move (Below.moves hb)
theorem StsAt.grw {w w' : World} {v : Value} {ks : List St} (h : StsAt All w v ks) (hb : Below w.heap.size w w') : StsAt All w' v ks := h.move (Below.moves hb)
theorem RusAt.grw {w w' : World} {v : Value} {ks : List Ru} (h : RusAt All w v ks) (hb : Below w.heap.size w w') : RusAt All w' v ks := h.move (Below.moves hb)
end Go.Proofs.Ytdppelkfcnbgbaa.Pl
