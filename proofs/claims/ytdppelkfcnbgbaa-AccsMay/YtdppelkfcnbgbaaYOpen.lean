/-
  Rows, a row and an Out that are handed in, opened.
-/
import Derived.Test.YtdppelkfcnbgbaaRows
import Derived.Test.YtdppelkfcnbgbaaYMem
import Derived.ProofKit
import Derived.OpenShut
import Derived.Carry
import Derived.Deep.Strs
import Derived.Lib.SmallJoins
set_option maxRecDepth 100000
set_option linter.unusedVariables false
namespace Go.Proofs.Ytdppelkfcnbgbaa.Ao
open Go.ChangeShapes Go.WideShapes Go.ChangeAt Go.RowKit Go.Deep
open Ac

def I64 (a : Int) : Prop := -9223372036854775808 ≤ a ∧ a ≤ 9223372036854775807
variable {H : Type} {enc : TypeId × Value → H} {W : World} {base : Nat} {spare : Nat → Bool} {held : Bool}
theorem i64_of {a : Int} (h : (Lit.int .i64 a).wf = true) : I64 a := by
  simpa [I64, Lit.wf, IntKind.min, IntKind.max, IntKind.signed, IntKind.bits] using h
theorem addOff (b o k : Nat) : (⟨b, o, none⟩ : Addr).add k = ⟨b, o + k, none⟩ := by unfold Addr.add; split <;> simp_all
theorem each_int {n : Nat} {v : Value} {y : DataW H × List MemPlace} (h : DataW.trod enc Try.prog W base spare held n 3 [v] = some y) : ∃ a : Int, v = .int .i64 a ∧ I64 a := by
  obtain ⟨a, h1, _, h3⟩ := DataW.trod_int Try.underlying3 h
  exact ⟨a, by simpa using h1, i64_of h3⟩
theorem each_i64 {n : Nat} {v : Value} {y : DataW H × List MemPlace} (h : DataW.trod enc Try.prog W base spare held n 2 [v] = some y) : ∃ a : Int, v = .int .i64 a ∧ I64 a := by
  obtain ⟨a, h1, _, h3⟩ := DataW.trod_int Try.underlying2 h
  exact ⟨a, by simpa using h1, i64_of h3⟩
theorem each_bool {n : Nat} {v : Value} {y : DataW H × List MemPlace} (h : DataW.trod enc Try.prog W base spare held n 4 [v] = some y) : ∃ a : Bool, v = .bool a := by
  obtain ⟨a, h1, _⟩ := DataW.trod_bool Try.underlying4 h
  exact ⟨a, by simpa using h1⟩
theorem each_tx {n : Nat} {v : Value} {y : DataW H × List MemPlace} (h : DataW.trod enc Try.prog W base spare held n 9 [v] = some y) : ∃ a : Tx, v = .string (mk a) := by
  obtain ⟨s, h1, h2, _⟩ := DataW.trod_string Try.underlying9 h
  refine ⟨s.data.toList, ?_⟩
  rw [mk_of]
  simpa using h1
theorem open_b {r : Reach} {b0 : Nat} {v : Value} (hv : Value.okWide Try.prog W r b0 4 v) : ∃ b : Bool, v = .bool b := by
  simp only [Value.okWide, Try.underlying4, Cell.okWide] at hv
  cases v <;> simp_all [Cell.ok]
theorem open_tx {v : Value} {d : DataW H} {p : List MemPlace} (hv : ∃ s, v = .string s) : ∃ a : Tx, v = .string (mk a) := by
  obtain ⟨s, rfl⟩ := hv
  exact ⟨s.data.toList, by rw [mk_of]⟩
theorem each_acc {n : Nat} {cs : List Value} {y : DataW H × List MemPlace} (h : DataW.trod enc Try.prog W base spare held n 31 cs = some y) : ∃ x : Row, cs = rc x ∧ I64 x.year := by
  obtain ⟨xs, n', _, rfl, hlen, hxl, hf⟩ := DataW.trod_struct Try.underlying31 h
  rw [show Try.prog.cellsOf 31 = 5 by kernel_rfl] at hlen
  match xs, hxl, cs, hlen with
  | [y0, y1, y2, y3, y4], _, [v0, v1, v2, v3, v4], _ =>
    have h0 : DataW.trod enc Try.prog W base spare held n' 9 ((([v0, v1, v2, v3, v4] : List Value).drop 0).take (Try.prog.cellsOf 9)) = some y0 := hf 0 _ rfl
    rw [show Try.prog.cellsOf 9 = 1 by kernel_rfl] at h0
    have h1 : DataW.trod enc Try.prog W base spare held n' 4 ((([v0, v1, v2, v3, v4] : List Value).drop 1).take (Try.prog.cellsOf 4)) = some y1 := hf 1 _ rfl
    rw [show Try.prog.cellsOf 4 = 1 by kernel_rfl] at h1
    have h2 : DataW.trod enc Try.prog W base spare held n' 3 ((([v0, v1, v2, v3, v4] : List Value).drop 2).take (Try.prog.cellsOf 3)) = some y2 := hf 2 _ rfl
    rw [show Try.prog.cellsOf 3 = 1 by kernel_rfl] at h2
    have h3 : DataW.trod enc Try.prog W base spare held n' 2 ((([v0, v1, v2, v3, v4] : List Value).drop 3).take (Try.prog.cellsOf 2)) = some y3 := hf 3 _ rfl
    rw [show Try.prog.cellsOf 2 = 1 by kernel_rfl] at h3
    have h4 : DataW.trod enc Try.prog W base spare held n' 2 ((([v0, v1, v2, v3, v4] : List Value).drop 4).take (Try.prog.cellsOf 2)) = some y4 := hf 4 _ rfl
    rw [show Try.prog.cellsOf 2 = 1 by kernel_rfl] at h4
    obtain ⟨a0, rfl⟩ := each_tx (y := y0) (by simpa using h0)
    obtain ⟨a1, rfl⟩ := each_bool (y := y1) (by simpa using h1)
    obtain ⟨a2, rfl, i2⟩ := each_int (y := y2) (by simpa using h2)
    obtain ⟨a3, rfl, i3⟩ := each_i64 (y := y3) (by simpa using h3)
    obtain ⟨a4, rfl, i4⟩ := each_i64 (y := y4) (by simpa using h4)
    exact ⟨⟨a0, a1, a2, a3, a4⟩, rfl, i2⟩
theorem open_rows {v : Value} {d : DataW H} {p : List MemPlace} (hv : ∃ a n c, v = .slice a n c) (h : DataW.Trod enc Try.prog W base spare held 22 v d p) : ∃ xs : List Row, RwsAt All W v xs ∧ ∀ x ∈ xs, I64 x.year := by
  obtain ⟨a0, n0, c0, rfl⟩ := hv
  obtain ⟨fuel, hf⟩ := h
  rcases open_slice Try.underlying22 hf with ⟨h0, _⟩ | ⟨a, len, cap, m, n, D, Pl, hv, hb, hl, hm, hmm, _, hx⟩
  · obtain ⟨rfl, rfl, rfl⟩ : a0 = none ∧ n0 = 0 ∧ c0 = 0 := by simpa [Value.cells] using h0
    exact ⟨[], RwsAt.nil _ _, by simp⟩
  · obtain ⟨rfl, rfl, rfl⟩ : a0 = some a ∧ n0 = len ∧ c0 = cap := by simpa [Value.cells] using hv
    have hlm : n0 ≤ m := by rw [hmm]; split <;> omega
    rw [show Try.prog.cellsOf 31 = 5 by kernel_rfl] at hx
    obtain ⟨Y, hY⟩ := @choose_lt Row ⟨⟨[], false, 0, 0, 0⟩⟩ n0 (fun i y => (∀ r, r < 5 → W.cell? ((a.add (i * 5)).add r) = (rc y)[r]?) ∧ I64 y.year) (fun i hi => by
      obtain ⟨cs', g1, g2⟩ := hx i (by omega)
      obtain ⟨x, rfl, q1⟩ := each_acc g2
      obtain ⟨_, _, hcell⟩ := World.cells?_some g1
      exact ⟨x, fun r hr => hcell r hr, q1⟩)
    have hxl : ((List.range n0).map Y).length = n0 := by simp
    refine ⟨(List.range n0).map Y, ⟨some a, c0, by rw [hxl], by rw [hxl]; exact hl, hm, ?_⟩, fun x hx1 => ?_⟩
    · rcases Nat.eq_zero_or_pos n0 with h0 | h0
      · subst h0; exact Or.inl rfl
      · obtain ⟨b, o, sp⟩ := a
        have hc00 := (hY 0 h0).1 0 (by omega)
        have hsp : sp = none := by
          have := World.cell?_spot (v := .string (mk (Y 0).who)) hc00
          simpa [Addr.add] using this
        subst hsp
        rw [addOff, addOff] at hc00
        refine Or.inr ⟨b, o, rfl, trivial, World.block_lt_of_cell? W _ hc00, fun j x hj => ?_⟩
        have hjl : j < n0 := by have := (List.getElem?_eq_some_iff.1 hj).1; simpa using this
        rw [List.getElem?_map, List.getElem?_range hjl] at hj
        obtain rfl := Option.some.inj hj
        have e : ∀ r, r < 5 → W.cell? ⟨b, o + j * 5 + r, none⟩ = (rc (Y j))[r]? := fun r hr => by
          have := (hY j hjl).1 r hr
          rwa [addOff, addOff] at this
        exact ⟨e 0 (by omega), e 1 (by omega), e 2 (by omega), e 3 (by omega), e 4 (by omega)⟩
    · obtain ⟨i, hi, rfl⟩ := List.mem_map.1 hx1
      exact (hY i (List.mem_range.1 hi)).2
theorem agg_of {r : Reach} {b0 : Nat} {t : TypeId} {fs : Array Field} {v : Value} {d : DataW H} {p : List MemPlace} (hs : Try.prog.underlying t = some (.struct fs)) (hv : Value.okWide Try.prog W r b0 t v) (h : DataW.Trod enc Try.prog W base spare held t v d p) : ∃ (cs : List Value) (fuel : Nat), v = .agg cs.toArray ∧ DataW.trod enc Try.prog W base spare held fuel t cs = some (d, p) := by
  obtain ⟨cs, rfl, _⟩ := okWide_struct hs hv
  obtain ⟨fuel, hf⟩ := h
  exact ⟨cs.toList, fuel, by simp, by simpa [Value.cells] using hf⟩
theorem open_acc {r : Reach} {b0 : Nat} {v : Value} {d : DataW H} {p : List MemPlace} (hv : Value.okWide Try.prog W r b0 31 v) (h : DataW.Trod enc Try.prog W base spare held 31 v d p) : ∃ x : Row, v = rwv x ∧ I64 x.year := by
  obtain ⟨cs, fuel, rfl, hf⟩ := agg_of Try.underlying31 hv h
  obtain ⟨x, rfl, h1⟩ := each_acc hf
  exact ⟨x, rfl, h1⟩
theorem each_out {n : Nat} {cs : List Value} {y : DataW H × List MemPlace} (h : DataW.trod enc Try.prog W base spare held n 35 cs = some y) : ∃ x : Sh.Ot, cs = [.int .i64 x.al, .int .i64 x.de, .int .i64 x.cp, .int .i64 x.cn, .int .i64 x.plan, .int .i64 x.wr, .int .i64 x.pr, .int .i64 x.deny] := by
  obtain ⟨xs, n', _, rfl, hlen, hxl, hf⟩ := DataW.trod_struct Try.underlying35 h
  rw [show Try.prog.cellsOf 35 = 8 by kernel_rfl] at hlen
  match xs, hxl, cs, hlen with
  | [y0, y1, y2, y3, y4, y5, y6, y7], _, [v0, v1, v2, v3, v4, v5, v6, v7], _ =>
    have h0 : DataW.trod enc Try.prog W base spare held n' 2 ((([v0, v1, v2, v3, v4, v5, v6, v7] : List Value).drop 0).take (Try.prog.cellsOf 2)) = some y0 := hf 0 _ rfl
    rw [show Try.prog.cellsOf 2 = 1 by kernel_rfl] at h0
    have h1 : DataW.trod enc Try.prog W base spare held n' 2 ((([v0, v1, v2, v3, v4, v5, v6, v7] : List Value).drop 1).take (Try.prog.cellsOf 2)) = some y1 := hf 1 _ rfl
    rw [show Try.prog.cellsOf 2 = 1 by kernel_rfl] at h1
    have h2 : DataW.trod enc Try.prog W base spare held n' 2 ((([v0, v1, v2, v3, v4, v5, v6, v7] : List Value).drop 2).take (Try.prog.cellsOf 2)) = some y2 := hf 2 _ rfl
    rw [show Try.prog.cellsOf 2 = 1 by kernel_rfl] at h2
    have h3 : DataW.trod enc Try.prog W base spare held n' 2 ((([v0, v1, v2, v3, v4, v5, v6, v7] : List Value).drop 3).take (Try.prog.cellsOf 2)) = some y3 := hf 3 _ rfl
    rw [show Try.prog.cellsOf 2 = 1 by kernel_rfl] at h3
    have h4 : DataW.trod enc Try.prog W base spare held n' 2 ((([v0, v1, v2, v3, v4, v5, v6, v7] : List Value).drop 4).take (Try.prog.cellsOf 2)) = some y4 := hf 4 _ rfl
    rw [show Try.prog.cellsOf 2 = 1 by kernel_rfl] at h4
    have h5 : DataW.trod enc Try.prog W base spare held n' 2 ((([v0, v1, v2, v3, v4, v5, v6, v7] : List Value).drop 5).take (Try.prog.cellsOf 2)) = some y5 := hf 5 _ rfl
    rw [show Try.prog.cellsOf 2 = 1 by kernel_rfl] at h5
    have h6 : DataW.trod enc Try.prog W base spare held n' 2 ((([v0, v1, v2, v3, v4, v5, v6, v7] : List Value).drop 6).take (Try.prog.cellsOf 2)) = some y6 := hf 6 _ rfl
    rw [show Try.prog.cellsOf 2 = 1 by kernel_rfl] at h6
    have h7 : DataW.trod enc Try.prog W base spare held n' 3 ((([v0, v1, v2, v3, v4, v5, v6, v7] : List Value).drop 7).take (Try.prog.cellsOf 3)) = some y7 := hf 7 _ rfl
    rw [show Try.prog.cellsOf 3 = 1 by kernel_rfl] at h7
    obtain ⟨a0, rfl, i0⟩ := each_i64 (y := y0) (by simpa using h0)
    obtain ⟨a1, rfl, i1⟩ := each_i64 (y := y1) (by simpa using h1)
    obtain ⟨a2, rfl, i2⟩ := each_i64 (y := y2) (by simpa using h2)
    obtain ⟨a3, rfl, i3⟩ := each_i64 (y := y3) (by simpa using h3)
    obtain ⟨a4, rfl, i4⟩ := each_i64 (y := y4) (by simpa using h4)
    obtain ⟨a5, rfl, i5⟩ := each_i64 (y := y5) (by simpa using h5)
    obtain ⟨a6, rfl, i6⟩ := each_i64 (y := y6) (by simpa using h6)
    obtain ⟨a7, rfl, i7⟩ := each_int (y := y7) (by simpa using h7)
    exact ⟨⟨a0, a1, a2, a3, a4, a5, a6, a7⟩, rfl⟩
theorem open_out {r : Reach} {b0 : Nat} {v : Value} {d : DataW H} {p : List MemPlace} (hv : Value.okWide Try.prog W r b0 35 v) (h : DataW.Trod enc Try.prog W base spare held 35 v d p) : ∃ x : Sh.Ot, v = .agg #[.int .i64 x.al, .int .i64 x.de, .int .i64 x.cp, .int .i64 x.cn, .int .i64 x.plan, .int .i64 x.wr, .int .i64 x.pr, .int .i64 x.deny] := by
  obtain ⟨cs, fuel, rfl, hf⟩ := agg_of Try.underlying35 hv h
  obtain ⟨x, rfl⟩ := each_out hf
  exact ⟨x, rfl⟩
end Go.Proofs.Ytdppelkfcnbgbaa.Ao
