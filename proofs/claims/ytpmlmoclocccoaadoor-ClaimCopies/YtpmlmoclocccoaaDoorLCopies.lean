/-
  A copy that is written into: what of it stays as it was, round by round.
-/
import Derived.Test.YtpmlmoclocccoaaDoorLOne
set_option linter.unusedSimpArgs false
namespace Go.Proofs.YtpmlmoclocccoaaDoor.Cm
open Go.RowKit

/-- A row of texts that may be written into: none, or a whole block of texts, none longer than so much. -/
def WTx (lo hi : Nat) (w : World) (v : Value) (n z : Nat) : Prop := (n = 0 ∧ v = .slice none 0 0) ∨ (0 < n ∧ ∃ b, lo < b ∧ b < hi ∧ v = .slice (some ⟨b, 0, none⟩) n n ∧ ∃ f : Nat → Value, w.rowIs b 9 n f ∧ ∀ i, i < n → ∃ s : ByteArray, f i = .string s ∧ s.size ≤ z)
/-- Services that may be written into: the row is the block B, its modifiers lie between B and hi. -/
def WLns (B hi : Nat) (w : World) (v : Value) (n z : Nat) (k : Nat → Nat) : Prop := (n = 0 ∧ v = .slice none 0 0) ∨ (0 < n ∧ B < hi ∧ v = .slice (some ⟨B, 0, none⟩) n n ∧ ∃ (f M : Nat → Value), w.rowIs B 35 (n * 6) f ∧ (∀ j, j < n → f (j * 6 + 1) = M j ∧ ∃ a : Int, f (j * 6 + 4) = .int .i64 a) ∧ ∀ j, j < n → WTx B hi w (M j) (k j) z)

theorem WTx.of_new {b B hi : Nat} {w : World} {v : Value} {l : List Tx} (h : NewTx b w v l) (hB : B < b) (hw : w.heap.size ≤ hi) {z : Nat} (hz : ∀ t ∈ l, t.length ≤ z) : WTx B hi w v l.length z := by
  rcases h with ⟨rfl, rfl⟩ | ⟨hne, rfl, hr⟩
  · exact Or.inl ⟨rfl, rfl⟩
  · refine Or.inr ⟨List.length_pos_iff.2 hne, b, hB, Nat.lt_of_lt_of_le hr.lt hw, rfl, _, hr, fun i hi => ⟨_, rfl, ?_⟩⟩
    rw [mk_size, List.getD_eq_getElem?_getD, List.getElem?_eq_getElem hi]
    exact hz _ (List.getElem_mem hi)
theorem WLns.of_new {B hi : Nat} {w : World} {v : Value} {ls : List Ln} (h : NewLns B w v ls) (hw : w.heap.size ≤ hi) {z : Nat} (hz : ∀ x ∈ ls, ∀ t ∈ x.mods, t.length ≤ z) : WLns B hi w v ls.length z (fun j => (ls.getD j ln0).mods.length) := by
  rcases h with ⟨rfl, rfl⟩ | ⟨hne, rfl, M, hr, hM⟩
  · exact Or.inl ⟨rfl, rfl⟩
  · refine Or.inr ⟨List.length_pos_iff.2 hne, Nat.lt_of_lt_of_le hr.lt hw, rfl, _, M, hr, fun j hj => ?_, fun j hj => ?_⟩
    · have hx := List.getElem?_eq_getElem hj
      rw [rowc_at ls M j _ hx 1 (by omega), rowc_at ls M j _ hx 4 (by omega)]
      exact ⟨rfl, _, rfl⟩
    · have hx := List.getElem?_eq_getElem hj
      obtain ⟨b, hb, hn⟩ := hM j _ hx
      have e : (ls.getD j ln0) = ls[j] := by rw [List.getD_eq_getElem?_getD, hx]; rfl
      show WTx B hi w (M j) (ls.getD j ln0).mods.length z
      rw [e]
      exact WTx.of_new hn hb hw (hz _ (List.getElem_mem hj))
theorem WTx.mono {lo hi : Nat} {w : World} {v : Value} {n z z' : Nat} (h : WTx lo hi w v n z) (hz : z ≤ z') : WTx lo hi w v n z' :=
  h.imp id fun ⟨h1, b, h2, h3, h4, f, h5, h6⟩ => ⟨h1, b, h2, h3, h4, f, h5, fun i hi => by obtain ⟨s, e, l⟩ := h6 i hi; exact ⟨s, e, Nat.le_trans l hz⟩⟩
theorem WTx.of_blocks {lo hi : Nat} {w w' : World} {v : Value} {n z : Nat} (h : WTx lo hi w v n z) (he : ∀ b, lo < b → b < hi → w'.heap[b]? = w.heap[b]?) : WTx lo hi w' v n z :=
  h.imp id fun ⟨h1, b, h2, h3, h4, f, h5, h6⟩ => ⟨h1, b, h2, h3, h4, f, h5.of_block (he b h2 h3), h6⟩
theorem WLns.of_blocks {B hi : Nat} {w w' : World} {v : Value} {n z : Nat} {k : Nat → Nat} (h : WLns B hi w v n z k) (he : ∀ b, B ≤ b → b < hi → w'.heap[b]? = w.heap[b]?) : WLns B hi w' v n z k :=
  h.imp id fun ⟨h1, h0, h2, f, M, h3, h4, h5⟩ => ⟨h1, h0, h2, f, M, h3.of_block (he B (Nat.le_refl _) h0), h4, fun j hj => (h5 j hj).of_blocks fun b hb => he b (Nat.le_of_lt hb)⟩
/-- A number is put in a service's fifth place. -/
theorem WLns.billed {B hi : Nat} {w : World} {v : Value} {n z : Nat} {k : Nat → Nat} (h : WLns B hi w v n z k) {j : Nat} (hj : j < n) (a : Int) : WLns B hi (w.setCell ⟨B, j * 6 + 4, none⟩ (.int .i64 a)) v n z k := by
  rcases h with ⟨rfl, _⟩ | ⟨h1, h0, h2, f, M, h3, h4, h5⟩
  · omega
  · refine Or.inr ⟨h1, h0, h2, _, M, h3.set (j * 6 + 4) _, fun i hi => ⟨?_, ?_⟩, fun i hi => (h5 i hi).of_blocks fun b hb _ => Below.heap_setCell _ _ _ _ (Nat.ne_of_gt hb)⟩
    · show (if i * 6 + 1 = j * 6 + 4 then _ else _) = _
      rw [if_neg (by omega)]
      exact (h4 i hi).1
    · show ∃ a' : Int, (if i * 6 + 4 = j * 6 + 4 then _ else _) = _
      by_cases e : i = j
      · subst e; exact ⟨a, by simp⟩
      · rw [if_neg (by omega)]
        exact (h4 i hi).2
/-- A text is put in a modifier's place: no text is longer by more than one sign. -/
theorem WTx.put {lo hi : Nat} {w : World} {b : Nat} {n z : Nat} {v : Value} (h : WTx lo hi w v n z) (i : Nat) (s : ByteArray) (hs : s.size ≤ z) : WTx lo hi (w.setCell ⟨b, i, none⟩ (.string s)) v n z := by
  refine h.imp id fun ⟨h1, b', h2, h3, h4, f, h5, h6⟩ => ⟨h1, b', h2, h3, h4, ?_⟩
  by_cases e : b' = b
  · subst e
    refine ⟨_, h5.set i (.string s), fun q hq => ?_⟩
    show ∃ s' : ByteArray, (if q = i then _ else _) = _ ∧ _
    by_cases e2 : q = i
    · rw [if_pos e2]; exact ⟨s, rfl, hs⟩
    · rw [if_neg e2]; exact h6 q hq
  · exact ⟨f, h5.of_block (Below.heap_setCell _ _ _ _ e), h6⟩
theorem WLns.put {B hi : Nat} {w : World} {v : Value} {n z : Nat} {k : Nat → Nat} (h : WLns B hi w v n z k) {b : Nat} (hb : B < b) (i : Nat) (s : ByteArray) (hs : s.size ≤ z + 1) : WLns B hi (w.setCell ⟨b, i, none⟩ (.string s)) v n (z + 1) k := by
  refine h.imp id fun ⟨h1, h0, h2, f, M, h3, h4, h5⟩ => ⟨h1, h0, h2, f, M, h3.of_block (Below.heap_setCell _ _ _ _ (Nat.ne_of_lt hb)), h4, fun j hj => ?_⟩
  exact ((h5 j hj).mono (Nat.le_succ z)).put i s hs
theorem WLns.len {B hi : Nat} {w : World} {v : Value} {n z : Nat} {k : Nat → Nat} (h : WLns B hi w v n z k) : ∃ a, v = .slice a n n := by
  rcases h with ⟨rfl, rfl⟩ | ⟨_, _, rfl, _⟩
  · exact ⟨none, rfl⟩
  · exact ⟨_, rfl⟩
/-- A service's cells, as far as they are looked at. -/
theorem WLns.at {B hi : Nat} {w : World} {a : Option Addr} {n z : Nat} {k : Nat → Nat} (h : WLns B hi w (.slice a n n) n z k) {j : Nat} (hj : j < n) : a = some ⟨B, 0, none⟩ ∧ ∃ (m : Value) (q : Int), w.cell? ⟨B, j * 6 + 1, none⟩ = some m ∧ w.cell? ⟨B, j * 6 + 4, none⟩ = some (.int .i64 q) ∧ (∀ i, w.frozen? ⟨B, i, none⟩ = false) ∧ WTx B hi w m (k j) z ∧ B < hi := by
  rcases h with ⟨rfl, _⟩ | ⟨h1, h0, h2, f, M, h3, h4, h5⟩
  · omega
  · injection h2 with e
    obtain ⟨g1, q, g2⟩ := h4 j hj
    refine ⟨e, M j, q, ?_, ?_, fun i => h3.frozen i, h5 j hj, h0⟩
    · rw [h3.cell (show j * 6 + 1 < n * 6 by omega), g1]
    · rw [h3.cell (show j * 6 + 4 < n * 6 by omega), g2]
theorem WTx.len {lo hi : Nat} {w : World} {v : Value} {n z : Nat} (h : WTx lo hi w v n z) : ∃ a, v = .slice a n n := by
  rcases h with ⟨rfl, rfl⟩ | ⟨_, b, _, _, rfl, _⟩
  · exact ⟨none, rfl⟩
  · exact ⟨_, rfl⟩
theorem WTx.at {lo hi : Nat} {w : World} {a : Option Addr} {n z : Nat} (h : WTx lo hi w (.slice a n n) n z) {i : Nat} (hi' : i < n) : ∃ (b : Nat) (s : ByteArray), a = some ⟨b, 0, none⟩ ∧ lo < b ∧ b < hi ∧ w.cell? ⟨b, i, none⟩ = some (.string s) ∧ w.frozen? ⟨b, i, none⟩ = false ∧ s.size ≤ z := by
  rcases h with ⟨rfl, _⟩ | ⟨_, b, h2, h3, h4, f, h5, h6⟩
  · omega
  · injection h4 with e
    obtain ⟨s, e2, hs⟩ := h6 i hi'
    exact ⟨b, s, e, h2, h3, by rw [h5.cell hi', e2], h5.frozen i, hs⟩
/-- All blocks stand but those from B on below hi. -/
structure Out (B hi : Nat) (w w' : World) : Prop where
  os : w'.os = w.os
  tape : w'.tape = w.tape
  output : w'.output = w.output
  size : w.heap.size ≤ w'.heap.size
  block : ∀ b, b < B ∨ hi ≤ b → b < w.heap.size → w'.heap[b]? = w.heap[b]?
theorem Out.refl (B hi : Nat) (w : World) : Out B hi w w := ⟨rfl, rfl, rfl, Nat.le_refl _, fun _ _ _ => rfl⟩
theorem Out.drew {B hi : Nat} {w w' : World} (h : Out B hi w w') : Out B hi w w'.drew := ⟨h.os, h.tape, h.output, h.size, h.block⟩
theorem Out.set {B hi : Nat} {w w' : World} (h : Out B hi w w') {b : Nat} (h1 : B ≤ b) (h2 : b < hi) (i : Nat) (v : Value) : Out B hi w (w'.setCell ⟨b, i, none⟩ v) :=
  ⟨h.os, h.tape, h.output, by simpa using h.size, fun x hx hl => by rw [Below.heap_setCell _ _ _ _ (show x ≠ b by omega)]; exact h.block x hx hl⟩
theorem Out.below {B hi lo : Nat} {w0 w w' : World} (h : Out B hi w w') (hb : Below lo w0 w) (hl : lo ≤ B) (hs : lo ≤ w.heap.size) : Below lo w0 w' :=
  ⟨h.os.trans hb.os, h.tape.trans hb.tape, h.output.trans hb.output, Nat.le_trans hb.size h.size, fun k hk => (h.block k (Or.inl (by omega)) (by omega)).trans (hb.block k hk)⟩
theorem Out.cbox {B hi : Nat} {w w' : World} (h : Out B hi w w') {b : Nat} {x : Cl} {m : Value} (hb : b < B ∨ hi ≤ b) (hc : ClBox w b x m) : ClBox w' b x m := by
  have hl := World.block_lt_of_cell? w _ hc.1
  obtain ⟨h0, h1, h2, h3, h4, h5, h6⟩ := hc
  refine ⟨?_, ?_, ?_, ?_, ?_, ?_, ?_⟩ <;> rw [World.cell?_of_block (w := w) (h.block b hb hl)] <;> assumption
/-- What is kept while the copy is written into. -/
def Inv (B hi : Nat) (w3 wr : World) (u : Value) (n z : Nat) (k : Nat → Nat) : Prop := Out B hi w3 wr ∧ WLns B hi wr u n z k
theorem Inv.billed {B hi : Nat} {w3 wr : World} {u : Value} {n z : Nat} {k : Nat → Nat} (h : Inv B hi w3 wr u n z k) {j : Nat} (hj : j < n) (hB : B < hi) (a : Int) : Inv B hi w3 (wr.setCell ⟨B, j * 6 + 4, none⟩ (.int .i64 a)) u n z k :=
  ⟨h.1.set (Nat.le_refl _) hB _ _, h.2.billed hj a⟩
theorem Inv.put {B hi : Nat} {w3 wr : World} {u : Value} {n z : Nat} {k : Nat → Nat} (h : Inv B hi w3 wr u n z k) {b : Nat} (hb : B < b) (hh : b < hi) (i : Nat) (s : ByteArray) (hs : s.size ≤ z + 1) : Inv B hi w3 (wr.setCell ⟨b, i, none⟩ (.string s)) u n (z + 1) k :=
  ⟨h.1.set (Nat.le_of_lt hb) hh _ _, h.2.put hb i s hs⟩
theorem Inv.drew {B hi : Nat} {w3 wr : World} {u : Value} {n z : Nat} {k : Nat → Nat} (h : Inv B hi w3 wr u n z k) : Inv B hi w3 wr.drew u n z k :=
  ⟨h.1.drew, h.2.of_blocks fun _ _ _ => rfl⟩
end Go.Proofs.YtpmlmoclocccoaaDoor.Cm
