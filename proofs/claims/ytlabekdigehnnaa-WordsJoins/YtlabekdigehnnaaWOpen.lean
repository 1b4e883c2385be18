/-
  Texts that are handed in, opened: a row of them, each one short.
-/
import Derived.Test.YtlabekdigehnnaaRows
import Derived.Test.YtlabekdigehnnaaQMem
import Derived.ProofKit
import Derived.OpenShut
import Derived.Carry
import Derived.Lay
import Derived.Deep.Strs
set_option maxRecDepth 100000
namespace Go.Proofs.Ytlabekdigehnnaa
open Go.ChangeShapes Go.WideShapes Go.ChangeAt Go.RowKit Go.Deep

theorem add_off (b o j : Nat) : (⟨b, o, none⟩ : Addr).add j = ⟨b, o + j, none⟩ := by unfold Addr.add; split <;> simp_all
/-! ### Opened -/
variable {H : Type} {enc : TypeId × Value → H} {W : World} {base : Nat} {spare : Nat → Bool} {held : Bool}
theorem w_mem {P : Program} {e : TypeId} : ∀ {ds : List (DataW H)} {d : DataW H}, d ∈ ds → ∀ {x : Nat}, x ∈ d.weights P e → x ∈ DataW.weightsAll P e ds
  | [], d, h, _, _ => by cases h
  | c :: r, d, h, x, hx => by
    unfold DataW.weightsAll
    rcases List.mem_cons.1 h with rfl | h
    · exact List.mem_append_left _ hx
    · exact List.mem_append_right _ (w_mem h hx)
theorem w_slice {P : Program} {t e : TypeId} (ht : P.underlying t = some (.slice e)) {elems rest : List (DataW H)} {d : DataW H} (hd : d ∈ elems) {x : Nat} (hx : x ∈ d.weights P e) : x ∈ (DataW.slice elems rest).weights P t := by
  unfold DataW.weights
  rw [ht]
  exact List.mem_cons_of_mem _ (List.mem_append_left _ (w_mem hd hx))
/-- A row, its elements opened by a law of theirs. -/
theorem open_rows {α : Type} [Inhabited α] {R : World → Value → α → Prop} {sz : α → List Nat} {t e : TypeId} (ht : Try.prog.underlying t = some (.slice e)) (hc : Try.prog.cellsOf e = 1)
    (each : ∀ {n : Nat} {v : Value} {y : DataW H × List MemPlace}, DataW.trod enc Try.prog W base spare held n e [v] = some y → ∃ a, R W v a ∧ ∀ z ∈ sz a, z ∈ y.1.weights Try.prog e)
    {fuel : Nat} {v : Value} {y : DataW H × List MemPlace} (h : DataW.trod enc Try.prog W base spare held fuel t [v] = some y) : ∃ xs : List α, RowAt All R W v xs ∧ ∀ x ∈ xs, ∀ z ∈ sz x, z ∈ y.1.weights Try.prog t := by
  rcases open_slice1 ht hc h with ⟨h0, _⟩ | ⟨a, len, cap, m, n, V, D, Pl, hv, hb, hl, hm, hmm, rfl, hx⟩
  · obtain rfl : v = .slice none 0 0 := by simpa using h0
    exact ⟨[], ⟨none, 0, rfl, by simp, by simp [maxLen], Or.inl rfl⟩, by simp⟩
  · obtain rfl : v = .slice (some a) len cap := by simpa using hv
    have hlm : len ≤ m := by rw [hmm]; split <;> omega
    obtain ⟨Y, hY⟩ := choose_lt (α := α) (p := fun i y => R W (V i) y ∧ ∀ z ∈ sz y, z ∈ (D i).weights Try.prog e) (n := len) (fun i hi => each (hx i (by omega)).2)
    have hxl : ((List.range len).map Y).length = len := by simp
    refine ⟨(List.range len).map Y, ⟨some a, cap, by rw [hxl], by rw [hxl]; exact hl, hm, ?_⟩, fun x hx1 z hz => ?_⟩
    · rcases Nat.eq_zero_or_pos len with h0 | h0
      · subst h0; exact Or.inl rfl
      · obtain ⟨b, o, sp⟩ := a
        have hsp : sp = none := by simpa [Addr.add] using World.cell?_spot (hx 0 (by omega)).1
        subst hsp
        refine Or.inr ⟨b, o, rfl, trivial, World.block_lt_of_cell? W ⟨b, o + 0, none⟩ (by have := (hx 0 (by omega)).1; rwa [add_off] at this), fun j x hj => ?_⟩
        have hjl : j < len := by have := (List.getElem?_eq_some_iff.1 hj).1; simpa using this
        rw [List.getElem?_map, List.getElem?_range hjl] at hj
        obtain rfl := Option.some.inj hj
        exact ⟨V j, by have := (hx j (by omega)).1; rwa [add_off] at this, (hY j hjl).1⟩
    · obtain ⟨i, hi, rfl⟩ := List.mem_map.1 hx1
      have hil := List.mem_range.1 hi
      exact w_slice ht (List.mem_map.2 ⟨i, hi, rfl⟩) ((hY i hil).2 z hz)
def szT (x : Tx) : List Nat := [x.length]
def szE (ps : List Tx) : List Nat := ps.flatMap szT
theorem each_tx {n : Nat} {v : Value} {y : DataW H × List MemPlace} (h : DataW.trod enc Try.prog W base spare held n 9 [v] = some y) : ∃ a, StrAt W v a ∧ ∀ z ∈ szT a, z ∈ y.1.weights Try.prog 9 := by
  obtain ⟨s, h1, h2, _⟩ := DataW.trod_string Try.underlying9 h
  refine ⟨s.data.toList, ?_, fun z hz => ?_⟩
  · show v = .string (mk _)
    rw [mk_of]
    simpa using h1
  · rw [h2]
    unfold DataW.weights
    exact hz
theorem each_el {n : Nat} {v : Value} {y : DataW H × List MemPlace} (h : DataW.trod enc Try.prog W base spare held n 31 [v] = some y) : ∃ a, TxAt All W v a ∧ ∀ z ∈ szE a, z ∈ y.1.weights Try.prog 31 := by
  obtain ⟨xs, h1, h2⟩ := open_rows (R := StrAt) (sz := szT) Try.underlying31 (by kernel_rfl) each_tx h
  refine ⟨xs, h1, fun z hz => ?_⟩
  obtain ⟨x, hx, hz⟩ := List.mem_flatMap.1 hz
  exact h2 x hx z hz
theorem open_texts {v : Value} {d : DataW H} {p : List MemPlace} (h : DataW.Trod enc Try.prog W base spare held 31 v d p) (hs : ∃ a n c, v = .slice a n c) (hw : ∀ z ∈ d.weights Try.prog 31, z ≤ reachBytes) : ∃ l : List Tx, TxAt All W v l ∧ ∀ x ∈ l, x.length ≤ 281474976710656 := by
  obtain ⟨fuel, hf⟩ := h
  obtain ⟨a, n, c, rfl⟩ := hs
  obtain ⟨l, h1, h2⟩ := each_el (v := .slice a n c) (by simpa [Value.cells] using hf)
  refine ⟨l, h1, fun x hx => ?_⟩
  have := hw _ (h2 x.length (List.mem_flatMap.2 ⟨x, hx, by simp [szT]⟩))
  unfold reachBytes at this
  omega
end Go.Proofs.Ytlabekdigehnnaa
