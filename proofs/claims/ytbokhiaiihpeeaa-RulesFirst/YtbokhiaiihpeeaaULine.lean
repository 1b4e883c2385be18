/-
  A service and a set that are handed in, opened.
-/
import Derived.Test.YtbokhiaiihpeeaaPOpen
import Derived.Test.YtbokhiaiihpeeaaUHold
set_option maxRecDepth 100000
set_option linter.unusedVariables false
namespace Go.Proofs.Ytbokhiaiihpeeaa.Pl
open Go.ChangeShapes Go.WideShapes Go.ChangeAt Go.RowKit Go.Deep

theorem cTs : Try.prog.cellsOf 28 = 1 := by kernel_rfl
theorem cL : Try.prog.cellsOf 30 = 6 := by kernel_rfl
variable {H : Type} {enc : TypeId × Value → H} {W : World} {base : Nat} {spare : Nat → Bool} {held : Bool}
theorem open_txs {fuel : Nat} {v : Value} {y : DataW H × List MemPlace} (h : DataW.trod enc Try.prog W base spare held fuel 28 [v] = some y) : ∃ xs : List Tx, TxAt All W v xs ∧ (Fits y.1 28 → xs.length ≤ 281474976710656 ∧ ∀ x ∈ xs, x.length ≤ 281474976710656) := by
  rcases open_slice1 Try.underlying28 c9 h with ⟨h0, _⟩ | ⟨a, len, cap, m, n, V, D, Pl, hv, hb, hl, hm, hmm, rfl, hx⟩
  · obtain rfl : v = .slice none 0 0 := by simpa using h0
    exact ⟨[], TxAt.nil _ _, fun _ => by simp⟩
  · obtain rfl : v = .slice (some a) len cap := by simpa using hv
    have hlm : len ≤ m := by rw [hmm]; split <;> omega
    obtain ⟨Y, hY⟩ := choose_lt (α := Tx) (p := fun i y => V i = .string (mk y) ∧ (Fits (D i) 9 → y.length ≤ 281474976710656)) (n := len) (fun i hi => each_tx (hx i (by omega)).2)
    have hxl : ((List.range len).map Y).length = len := by simp
    refine ⟨(List.range len).map Y, ⟨some a, cap, by rw [hxl], by rw [hxl]; exact hl, hm, ?_⟩, fun hf => ⟨?_, fun x hx1 => ?_⟩⟩
    · rcases Nat.eq_zero_or_pos len with h0 | h0
      · subst h0; exact Or.inl rfl
      · obtain ⟨b, o, sp⟩ := a
        have hsp : sp = none := by simpa [Addr.add] using World.cell?_spot (hx 0 (by omega)).1
        subst hsp
        refine Or.inr ⟨b, o, rfl, trivial, World.block_lt_of_cell? W ⟨b, o + 0, none⟩ (by have := (hx 0 (by omega)).1; rwa [addOff] at this), fun j x hj => ?_⟩
        have hjl : j < len := by have := (List.getElem?_eq_some_iff.1 hj).1; simpa using this
        rw [List.getElem?_map, List.getElem?_range hjl] at hj
        obtain rfl := Option.some.inj hj
        exact ⟨V j, by have := (hx j (by omega)).1; rwa [addOff] at this, (hY j hjl).1⟩
    · have := fits_len Try.underlying28 hf (by decide +kernel)
      simpa using this
    · obtain ⟨i, hi, rfl⟩ := List.mem_map.1 hx1
      have hil := List.mem_range.1 hi
      exact (hY i hil).2 (fits_elem Try.underlying28 hf (List.mem_map.2 ⟨i, hi, rfl⟩))
theorem each_line {n : Nat} {cs : List Value} {y : DataW H × List MemPlace} (h : DataW.trod enc Try.prog W base spare held n 30 cs = some y) : ∃ (x : Cm.Ln) (m : Value), cs = [.string (mk x.proc), m, .int .i64 x.date, .int .i64 x.units, .int .i64 x.billed, .int .i64 x.prior] ∧ TxAt All W m x.mods ∧ (Fits y.1 30 → Cm.LnOk x) := by
  obtain ⟨xs, n', _, rfl, hlen, hxl, hf⟩ := DataW.trod_struct Try.underlying30 h
  rw [cL] at hlen
  match xs, hxl, cs, hlen with
  | [y0, y1, y2, y3, y4, y5], _, [v0, v1, v2, v3, v4, v5], _ =>
    have h0 : DataW.trod enc Try.prog W base spare held n' 9 ((([v0, v1, v2, v3, v4, v5] : List Value).drop 0).take (Try.prog.cellsOf 9)) = some y0 := hf 0 _ rfl
    have h1 : DataW.trod enc Try.prog W base spare held n' 28 ((([v0, v1, v2, v3, v4, v5] : List Value).drop 1).take (Try.prog.cellsOf 28)) = some y1 := hf 1 _ rfl
    have h2 : DataW.trod enc Try.prog W base spare held n' 3 ((([v0, v1, v2, v3, v4, v5] : List Value).drop 2).take (Try.prog.cellsOf 3)) = some y2 := hf 2 _ rfl
    have h3 : DataW.trod enc Try.prog W base spare held n' 3 ((([v0, v1, v2, v3, v4, v5] : List Value).drop 3).take (Try.prog.cellsOf 3)) = some y3 := hf 3 _ rfl
    have h4 : DataW.trod enc Try.prog W base spare held n' 2 ((([v0, v1, v2, v3, v4, v5] : List Value).drop 4).take (Try.prog.cellsOf 2)) = some y4 := hf 4 _ rfl
    have h5 : DataW.trod enc Try.prog W base spare held n' 2 ((([v0, v1, v2, v3, v4, v5] : List Value).drop 5).take (Try.prog.cellsOf 2)) = some y5 := hf 5 _ rfl
    rw [c9] at h0
    rw [cTs] at h1
    rw [cI] at h2 h3
    rw [c64] at h4 h5
    obtain ⟨a0, rfl, k0⟩ := each_tx (y := y0) (by simpa using h0)
    obtain ⟨a1, t1, k1⟩ := open_txs (y := y1) (by simpa using h1)
    obtain ⟨a2, rfl, i2⟩ := each_int (y := y2) (by simpa using h2)
    obtain ⟨a3, rfl, i3⟩ := each_int (y := y3) (by simpa using h3)
    obtain ⟨a4, rfl, i4⟩ := each_i64 (y := y4) (by simpa using h4)
    obtain ⟨a5, rfl, i5⟩ := each_i64 (y := y5) (by simpa using h5)
    refine ⟨⟨a0, a1, a2, a3, a4, a5⟩, v1, rfl, t1, fun hfit => ?_⟩
    have q0 := fits_part Try.underlying30 hfit 0 _ rfl rfl rfl
    have q1 := fits_part Try.underlying30 hfit 1 _ rfl rfl rfl
    exact ⟨i2, i3, i4, i5, k0 q0, (k1 q1).1, (k1 q1).2⟩
theorem open_line {r : Reach} {b0 : Nat} {v : Value} {d : DataW H} {p : List MemPlace} (hv : Value.okWide Try.prog W r b0 30 v) (h : DataW.Trod enc Try.prog W base spare held 30 v d p) : ∃ (x : Cm.Ln) (m : Value), v = Ul.lnv x m ∧ TxAt All W m x.mods := by
  obtain ⟨cs, fuel, rfl, hf⟩ := agg_of Try.underlying30 hv h
  obtain ⟨x, m, rfl, h1, h2⟩ := each_line hf
  exact ⟨x, m, rfl, h1⟩
theorem open_set {r : Reach} {b0 : Nat} {v : Value} {d : DataW H} {p : List MemPlace} (hv : Value.okWide Try.prog W r b0 45 v) (h : DataW.Trod enc Try.prog W base spare held 45 v d p) : ∃ x : St, v = stv x ∧ Cm.I64 x.what ∧ Cm.I64 x.n := by
  obtain ⟨cs, fuel, rfl, hf⟩ := agg_of Try.underlying45 hv h
  obtain ⟨xs, n', _, -, hlen, hxl, hf⟩ := DataW.trod_struct Try.underlying45 hf
  rw [show Try.prog.cellsOf 45 = 2 by kernel_rfl] at hlen
  match xs, hxl, cs, hlen with
  | [y0, y1], _, [v0, v1], _ =>
    have h0 : DataW.trod enc Try.prog W base spare held n' 3 ((([v0, v1] : List Value).drop 0).take (Try.prog.cellsOf 3)) = some y0 := hf 0 _ rfl
    rw [show Try.prog.cellsOf 3 = 1 by kernel_rfl] at h0
    have h1 : DataW.trod enc Try.prog W base spare held n' 2 ((([v0, v1] : List Value).drop 1).take (Try.prog.cellsOf 2)) = some y1 := hf 1 _ rfl
    rw [show Try.prog.cellsOf 2 = 1 by kernel_rfl] at h1
    obtain ⟨a0, rfl, i0⟩ := each_int (y := y0) (by simpa using h0)
    obtain ⟨a1, rfl, i1⟩ := each_i64 (y := y1) (by simpa using h1)
    exact ⟨⟨a0, a1⟩, rfl, i0, i1⟩
end Go.Proofs.Ytbokhiaiihpeeaa.Pl
