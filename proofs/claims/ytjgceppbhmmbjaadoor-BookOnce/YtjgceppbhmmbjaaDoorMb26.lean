/-
  Texts put together (merge.py): BOpen.
-/
import Derived.Test.YtjgceppbhmmbjaaDoorMb25
import Derived.Test.YtjgceppbhmmbjaaDoorMb6
import Derived.Test.YtjgceppbhmmbjaaDoorMb20
/-
  Entries, and claims, that are handed in, opened. (Written by gen_open.py.)
-/
section
set_option maxRecDepth 100000
set_option linter.unusedVariables false
namespace Go.Proofs.YtjgceppbhmmbjaaDoor.Bo
open Go.ChangeShapes Go.WideShapes Go.ChangeAt Go.RowKit Go.Deep
open Cm (Fits fits_elem fits_len fits_part each_tx each_int each_i64 each_claim open_claims c9 cI c64 addOff I64 w_mem agg_of Cl)
open Sh (Ot)
open Bk
variable {H : Type} {enc : TypeId × Value → H} {W : World} {base : Nat} {spare : Nat → Bool} {held : Bool}
theorem each_out {n : Nat} {cs : List Value} {y : DataW H × List MemPlace} (h : DataW.trod enc Tryd.prog W base spare held n 63 cs = some y) : ∃ x : Ot, cs = [.int .i64 x.al, .int .i64 x.de, .int .i64 x.cp, .int .i64 x.cn, .int .i64 x.plan, .int .i64 x.wr, .int .i64 x.pr, .int .i64 x.deny] := by
  obtain ⟨xs, n', _, rfl, hlen, hxl, hf⟩ := DataW.trod_struct Tryd.underlying63 h
  rw [show Tryd.prog.cellsOf 63 = 8 by kernel_rfl] at hlen
  match xs, hxl, cs, hlen with
  | [y0, y1, y2, y3, y4, y5, y6, y7], _, [v0, v1, v2, v3, v4, v5, v6, v7], _ =>
    have h0 : DataW.trod enc Tryd.prog W base spare held n' 2 ((([v0, v1, v2, v3, v4, v5, v6, v7] : List Value).drop 0).take (Tryd.prog.cellsOf 2)) = some y0 := hf 0 _ rfl
    rw [show Tryd.prog.cellsOf 2 = 1 by kernel_rfl] at h0
    have h1 : DataW.trod enc Tryd.prog W base spare held n' 2 ((([v0, v1, v2, v3, v4, v5, v6, v7] : List Value).drop 1).take (Tryd.prog.cellsOf 2)) = some y1 := hf 1 _ rfl
    rw [show Tryd.prog.cellsOf 2 = 1 by kernel_rfl] at h1
    have h2 : DataW.trod enc Tryd.prog W base spare held n' 2 ((([v0, v1, v2, v3, v4, v5, v6, v7] : List Value).drop 2).take (Tryd.prog.cellsOf 2)) = some y2 := hf 2 _ rfl
    rw [show Tryd.prog.cellsOf 2 = 1 by kernel_rfl] at h2
    have h3 : DataW.trod enc Tryd.prog W base spare held n' 2 ((([v0, v1, v2, v3, v4, v5, v6, v7] : List Value).drop 3).take (Tryd.prog.cellsOf 2)) = some y3 := hf 3 _ rfl
    rw [show Tryd.prog.cellsOf 2 = 1 by kernel_rfl] at h3
    have h4 : DataW.trod enc Tryd.prog W base spare held n' 2 ((([v0, v1, v2, v3, v4, v5, v6, v7] : List Value).drop 4).take (Tryd.prog.cellsOf 2)) = some y4 := hf 4 _ rfl
    rw [show Tryd.prog.cellsOf 2 = 1 by kernel_rfl] at h4
    have h5 : DataW.trod enc Tryd.prog W base spare held n' 2 ((([v0, v1, v2, v3, v4, v5, v6, v7] : List Value).drop 5).take (Tryd.prog.cellsOf 2)) = some y5 := hf 5 _ rfl
    rw [show Tryd.prog.cellsOf 2 = 1 by kernel_rfl] at h5
    have h6 : DataW.trod enc Tryd.prog W base spare held n' 2 ((([v0, v1, v2, v3, v4, v5, v6, v7] : List Value).drop 6).take (Tryd.prog.cellsOf 2)) = some y6 := hf 6 _ rfl
    rw [show Tryd.prog.cellsOf 2 = 1 by kernel_rfl] at h6
    have h7 : DataW.trod enc Tryd.prog W base spare held n' 3 ((([v0, v1, v2, v3, v4, v5, v6, v7] : List Value).drop 7).take (Tryd.prog.cellsOf 3)) = some y7 := hf 7 _ rfl
    rw [show Tryd.prog.cellsOf 3 = 1 by kernel_rfl] at h7
    obtain ⟨a0, rfl, i0⟩ := each_i64 (y := y0) (by simpa using h0)
    obtain ⟨a1, rfl, i1⟩ := each_i64 (y := y1) (by simpa using h1)
    obtain ⟨a2, rfl, i2⟩ := each_i64 (y := y2) (by simpa using h2)
    obtain ⟨a3, rfl, i3⟩ := each_i64 (y := y3) (by simpa using h3)
    obtain ⟨a4, rfl, i4⟩ := each_i64 (y := y4) (by simpa using h4)
    obtain ⟨a5, rfl, i5⟩ := each_i64 (y := y5) (by simpa using h5)
    obtain ⟨a6, rfl, i6⟩ := each_i64 (y := y6) (by simpa using h6)
    obtain ⟨a7, rfl, i7⟩ := each_int (y := y7) (by simpa using h7)
    exact ⟨⟨a0, a1, a2, a3, a4, a5, a6, a7⟩, rfl⟩
theorem open_outs {fuel : Nat} {v : Value} {y : DataW H × List MemPlace} (h : DataW.trod enc Tryd.prog W base spare held fuel 39 [v] = some y) : ∃ xs : List Ot, OtsAt All W v xs ∧ (Fits y.1 39 → xs.length ≤ 281474976710656) := by
  rcases open_slice Tryd.underlying39 h with ⟨h0, _⟩ | ⟨a, len, cap, m, n, D, Pl, hv, hb, hl, hm, hmm, rfl, hx⟩
  · obtain rfl : v = .slice none 0 0 := by simpa using h0
    exact ⟨[], OtsAt.nil _ _, fun _ => by simp⟩
  · obtain rfl : v = .slice (some a) len cap := by simpa using hv
    have hlm : len ≤ m := by rw [hmm]; split <;> omega
    rw [show Tryd.prog.cellsOf 63 = 8 by kernel_rfl] at hx
    obtain ⟨Y, hY⟩ := @choose_lt Ot ⟨⟨0, 0, 0, 0, 0, 0, 0, 0⟩⟩ len (fun i y => (∀ r, r < 8 → W.cell? ((a.add (i * 8)).add r) = [.int .i64 y.al, .int .i64 y.de, .int .i64 y.cp, .int .i64 y.cn, .int .i64 y.plan, .int .i64 y.wr, .int .i64 y.pr, .int .i64 y.deny][r]?)) (fun i hi => by
      obtain ⟨cs', g1, g2⟩ := hx i (by omega)
      obtain ⟨x, rfl⟩ := each_out g2
      obtain ⟨_, _, hcell⟩ := World.cells?_some g1
      exact ⟨x, fun r hr => hcell r hr⟩)
    have hxl : ((List.range len).map Y).length = len := by simp
    refine ⟨(List.range len).map Y, ⟨some a, cap, by rw [hxl], by rw [hxl]; exact hl, hm, ?_⟩, fun hf => ?_⟩
    · rcases Nat.eq_zero_or_pos len with h0 | h0
      · subst h0; exact Or.inl rfl
      · obtain ⟨b, o, sp⟩ := a
        have hc00 := hY 0 h0 0 (by omega)
        have hsp : sp = none := by
          have := World.cell?_spot (v := .int .i64 (Y 0).al) hc00
          simpa [Addr.add] using this
        subst hsp
        rw [addOff, addOff] at hc00
        refine Or.inr ⟨b, o, rfl, trivial, World.block_lt_of_cell? W _ hc00, fun j x hj => ?_⟩
        have hjl : j < len := by have := (List.getElem?_eq_some_iff.1 hj).1; simpa using this
        rw [List.getElem?_map, List.getElem?_range hjl] at hj
        obtain rfl := Option.some.inj hj
        have e : ∀ r, r < 8 → W.cell? ⟨b, o + j * 8 + r, none⟩ = [.int .i64 (Y j).al, .int .i64 (Y j).de, .int .i64 (Y j).cp, .int .i64 (Y j).cn, .int .i64 (Y j).plan, .int .i64 (Y j).wr, .int .i64 (Y j).pr, .int .i64 (Y j).deny][r]? := fun r hr => by
          have := hY j hjl r hr
          rwa [addOff, addOff] at this
        exact ⟨e 0 (by omega), e 1 (by omega), e 2 (by omega), e 3 (by omega), e 4 (by omega), e 5 (by omega), e 6 (by omega), e 7 (by omega)⟩
    · have := fits_len Tryd.underlying39 hf (by decide +kernel)
      simpa using this
theorem each_entry {n : Nat} {cs : List Value} {y : DataW H × List MemPlace} (h : DataW.trod enc Tryd.prog W base spare held n 41 cs = some y) : ∃ (x : En) (m mo : Value), cs = [.string (mk x.cl.id), .string (mk x.cl.mem), .string (mk x.cl.fam), .int .i64 x.cl.net, .int .i64 x.cl.does, .string (mk x.cl.ref), m, .int .i64 x.tb, .int .i64 x.st, mo] ∧ Cont All W ⟨x, m, mo⟩ ∧ (Fits y.1 41 → EnOk x) := by
  obtain ⟨xs, n', _, rfl, hlen, hxl, hf⟩ := DataW.trod_struct Tryd.underlying41 h
  rw [show Tryd.prog.cellsOf 41 = 10 by kernel_rfl] at hlen
  match xs, hxl, cs, hlen with
  | [y0, y1, y2, y3], _, [v0, v1, v2, v3, v4, v5, v6, v7, v8, v9], _ =>
    have h0 : DataW.trod enc Tryd.prog W base spare held n' 25 ((([v0, v1, v2, v3, v4, v5, v6, v7, v8, v9] : List Value).drop 0).take (Tryd.prog.cellsOf 25)) = some y0 := hf 0 _ rfl
    have h1 : DataW.trod enc Tryd.prog W base spare held n' 3 ((([v0, v1, v2, v3, v4, v5, v6, v7, v8, v9] : List Value).drop 7).take (Tryd.prog.cellsOf 3)) = some y1 := hf 1 _ rfl
    have h2 : DataW.trod enc Tryd.prog W base spare held n' 3 ((([v0, v1, v2, v3, v4, v5, v6, v7, v8, v9] : List Value).drop 8).take (Tryd.prog.cellsOf 3)) = some y2 := hf 2 _ rfl
    have h3 : DataW.trod enc Tryd.prog W base spare held n' 39 ((([v0, v1, v2, v3, v4, v5, v6, v7, v8, v9] : List Value).drop 9).take (Tryd.prog.cellsOf 39)) = some y3 := hf 3 _ rfl
    rw [show Tryd.prog.cellsOf 25 = 7 by kernel_rfl] at h0
    rw [cI] at h1 h2
    rw [show Tryd.prog.cellsOf 39 = 1 by kernel_rfl] at h3
    obtain ⟨a0, m, e0, t0, k0⟩ := each_claim (y := y0) (by simpa using h0)
    obtain ⟨a1, rfl, i1⟩ := each_int (y := y1) (by simpa using h1)
    obtain ⟨a2, rfl, i2⟩ := each_int (y := y2) (by simpa using h2)
    obtain ⟨a3, t3, k3⟩ := open_outs (y := y3) (by simpa using h3)
    simp only [List.cons.injEq, and_true] at e0
    obtain ⟨rfl, rfl, rfl, rfl, rfl, rfl, rfl⟩ := e0
    refine ⟨⟨a0, a1, a2, a3⟩, _, v9, rfl, ⟨t0, t3⟩, fun hfit => ?_⟩
    have q0 := fits_part Tryd.underlying41 hfit 0 _ rfl rfl rfl
    have q3 := fits_part Tryd.underlying41 hfit 3 _ rfl rfl rfl
    exact ⟨k0 q0, k3 q3⟩
theorem open_entries {fuel : Nat} {v : Value} {y : DataW H × List MemPlace} (h : DataW.trod enc Tryd.prog W base spare held fuel 22 [v] = some y) : ∃ xs : List En, EnsAt All W v xs ∧ (Fits y.1 22 → ∀ x ∈ xs, EnOk x) := by
  rcases open_slice Tryd.underlying22 h with ⟨h0, _⟩ | ⟨a, len, cap, m, n, D, Pl, hv, hb, hl, hm, hmm, rfl, hx⟩
  · obtain rfl : v = .slice none 0 0 := by simpa using h0
    exact ⟨[], EnsAt.nil _ _, fun _ => by simp⟩
  · obtain rfl : v = .slice (some a) len cap := by simpa using hv
    have hlm : len ≤ m := by rw [hmm]; split <;> omega
    rw [show Tryd.prog.cellsOf 41 = 10 by kernel_rfl] at hx
    obtain ⟨Y, hY⟩ := @choose_lt En ⟨en0⟩ len (fun i y => ∃ m mo, (∀ r, r < 10 → W.cell? ((a.add (i * 10)).add r) = [.string (mk y.cl.id), .string (mk y.cl.mem), .string (mk y.cl.fam), .int .i64 y.cl.net, .int .i64 y.cl.does, .string (mk y.cl.ref), m, .int .i64 y.tb, .int .i64 y.st, mo][r]?) ∧ Cont All W ⟨y, m, mo⟩ ∧ (Fits (D i) 41 → EnOk y)) (fun i hi => by
      obtain ⟨cs', g1, g2⟩ := hx i (by omega)
      obtain ⟨x, mv, mo, rfl, q1, q2⟩ := each_entry g2
      obtain ⟨_, _, hcell⟩ := World.cells?_some g1
      exact ⟨x, mv, mo, fun r hr => hcell r hr, q1, q2⟩)
    have hxl : ((List.range len).map Y).length = len := by simp
    refine ⟨(List.range len).map Y, ⟨some a, cap, by rw [hxl], by rw [hxl]; exact hl, hm, ?_⟩, fun hf x hx1 => ?_⟩
    · rcases Nat.eq_zero_or_pos len with h0 | h0
      · subst h0; exact Or.inl rfl
      · obtain ⟨b, o, sp⟩ := a
        obtain ⟨mv0, mo0, hc0, -, -⟩ := hY 0 h0
        have hc00 := hc0 0 (by omega)
        have hsp : sp = none := by
          have := World.cell?_spot hc00
          simpa [Addr.add] using this
        subst hsp
        rw [addOff, addOff] at hc00
        refine Or.inr ⟨b, o, rfl, trivial, World.block_lt_of_cell? W _ hc00, fun j x hj => ?_⟩
        have hjl : j < len := by have := (List.getElem?_eq_some_iff.1 hj).1; simpa using this
        rw [List.getElem?_map, List.getElem?_range hjl] at hj
        obtain rfl := Option.some.inj hj
        obtain ⟨m, mo, hc, ht, -⟩ := hY j hjl
        refine ⟨m, mo, ?_, ht⟩
        have e : ∀ r, r < 10 → W.cell? ⟨b, o + j * 10 + r, none⟩ = [.string (mk (Y j).cl.id), .string (mk (Y j).cl.mem), .string (mk (Y j).cl.fam), .int .i64 (Y j).cl.net, .int .i64 (Y j).cl.does, .string (mk (Y j).cl.ref), m, .int .i64 (Y j).tb, .int .i64 (Y j).st, mo][r]? := fun r hr => by
          have := hc r hr
          rwa [addOff, addOff] at this
        exact ⟨e 0 (by omega), e 1 (by omega), e 2 (by omega), e 3 (by omega), e 4 (by omega), e 5 (by omega), e 6 (by omega), e 7 (by omega), e 8 (by omega), e 9 (by omega)⟩
    · obtain ⟨i, hi, rfl⟩ := List.mem_map.1 hx1
      have hil := List.mem_range.1 hi
      obtain ⟨_, _, _, _, q⟩ := hY i hil
      exact q (fits_elem Tryd.underlying22 hf (List.mem_map.2 ⟨i, hi, rfl⟩))
theorem open_ens {v : Value} {d : DataW H} {p : List MemPlace} (hs : ∃ a n c, v = .slice a n c) (h : DataW.Trod enc Tryd.prog W base spare held 22 v d p) (hw : Fits d 22) : ∃ l : List En, EnsAt All W v l ∧ ∀ x ∈ l, EnOk x := by
  obtain ⟨a, n, c, rfl⟩ := hs
  obtain ⟨fuel, hf⟩ := h
  obtain ⟨xs, h1, h2⟩ := open_entries (v := .slice a n c) (by simpa [Value.cells] using hf)
  exact ⟨xs, h1, h2 hw⟩
theorem open_cls {v : Value} {d : DataW H} {p : List MemPlace} (hs : ∃ a n c, v = .slice a n c) (h : DataW.Trod enc Tryd.prog W base spare held 37 v d p) (hw : Fits d 37) : ∃ l : List Cl, Cm.ClsAt All W v l ∧ ∀ x ∈ l, Cm.ClOk x := by
  obtain ⟨a, n, c, rfl⟩ := hs
  obtain ⟨fuel, hf⟩ := h
  obtain ⟨xs, h1, h2⟩ := open_claims (v := .slice a n c) (by simpa [Value.cells] using hf)
  exact ⟨xs, h1, h2 hw⟩
theorem open_tx {s : ByteArray} {d : DataW H} {p : List MemPlace} (h : DataW.Trod enc Tryd.prog W base spare held 9 (.string s) d p) (hw : Fits d 9) : ∃ t : Tx, s = mk t ∧ t.length ≤ 281474976710656 := by
  obtain ⟨fuel, hf⟩ := h
  obtain ⟨t, h1, h2⟩ := each_tx (v := .string s) (by simpa [Value.cells] using hf)
  injection h1 with h1
  exact ⟨t, h1, h2 hw⟩
end Go.Proofs.YtjgceppbhmmbjaaDoor.Bo
end
