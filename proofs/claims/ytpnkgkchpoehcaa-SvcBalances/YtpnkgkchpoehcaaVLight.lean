/-
  What layer 20's light answers, as a contract; rows of claims of remittances that a law makes.
-/
import Derived.Test.YtpnkgkchpoehcaaVWorks
import Derived.Test.YtpnkgkchpoehcaaVCps
set_option linter.unusedSimpArgs false
set_option linter.unusedVariables false
set_option maxRecDepth 100000
namespace Go.Proofs.Ytpnkgkchpoehcaa.Sv
open Go.RowKit
open Bk (keepB below_alloc below_trans alloc_new)

theorem i64_wf {a : Int} (h : (Lit.int .i64 a).wf = true) : I64 a := by
  simpa [I64, Lit.wf, IntKind.min, IntKind.max, IntKind.signed, IntKind.bits] using h
theorem light_any (l : List Cp) (v : Value) (w : World) (h : CpsAt All w v l) (hz : ∀ x ∈ l, LenC x) :
    Calls Try.prog 13 #[v] w fun e w' => (∃ b, e = .returned (.bool b)) ∧ Below w.heap.size w w' := by
  have HW := Lib.hid (weight_any 600 (by decide) (by decide) v l w h hz)
  obtain ⟨a, c, rfl, -, -⟩ := h.form
  clear h
  go_enter Try.func13, Try.ntmps13
  go_wp2_with (first | (go_at_call 25; refine HW.out.mono ?_; rintro e w1 ⟨⟨n, rfl⟩, hb⟩; have HB1 := Lib.hid hb; clear hb))
  all_goals
    go_ret
    exact ⟨⟨_, rfl⟩, HB1.out⟩
theorem cps_one {w : World} {q : Nat} {x : Cp} {m : Value} {T : TypeId} (h : w.heap[q]? = some (.cells (cpe x m) T (0, 0))) (hm : SvsAt All w m x.svs) : CpsAt All w (.slice (some ⟨q, 0, none⟩) 1 1) [x] := by
  refine ⟨_, _, rfl, Nat.le_refl _, by unfold maxLen; omega, Or.inr ⟨q, 0, rfl, trivial, (Array.getElem?_eq_some_iff.1 h).1, fun j y hj => ?_⟩⟩
  have hj0 : j = 0 := by have := (List.getElem?_eq_some_iff.1 hj).1; simpa using this
  subst hj0
  obtain rfl : x = y := by simpa using hj
  obtain ⟨h0, h1, h2, h3, h4, h5⟩ := six h
  exact ⟨m, ⟨h0, h1, h2, h3, h4, h5⟩, hm⟩
theorem cps_two {w : World} {q : Nat} {x y : Cp} {m n : Value} {T : TypeId} (h : w.heap[q]? = some (.cells #[.string (mk x.id), .int .i64 x.st, .int .i64 x.bi, .int .i64 x.paid, .int .i64 x.mem, m, .string (mk y.id), .int .i64 y.st, .int .i64 y.bi, .int .i64 y.paid, .int .i64 y.mem, n] T (0, 0))) (hm : SvsAt All w m x.svs) (hn : SvsAt All w n y.svs) : CpsAt All w (.slice (some ⟨q, 0, none⟩) 2 2) [x, y] := by
  refine ⟨_, _, rfl, Nat.le_refl _, by unfold maxLen; omega, Or.inr ⟨q, 0, rfl, trivial, (Array.getElem?_eq_some_iff.1 h).1, fun j z hj => ?_⟩⟩
  have e : ∀ i u, (#[.string (mk x.id), .int .i64 x.st, .int .i64 x.bi, .int .i64 x.paid, .int .i64 x.mem, m, .string (mk y.id), .int .i64 y.st, .int .i64 y.bi, .int .i64 y.paid, .int .i64 y.mem, n] : Array Value)[i]? = some u → w.cell? ⟨q, i, none⟩ = some u := fun i u hu => by
    rw [cell_of_row w q _ _ T (0, 0) h]; exact hu
  have hj2 : j = 0 ∨ j = 1 := by have := (List.getElem?_eq_some_iff.1 hj).1; simp at this; omega
  rcases hj2 with rfl | rfl
  · obtain rfl : x = z := by simpa using hj
    exact ⟨m, ⟨e 0 _ rfl, e 1 _ rfl, e 2 _ rfl, e 3 _ rfl, e 4 _ rfl, e 5 _ rfl⟩, hm⟩
  · obtain rfl : y = z := by simpa using hj
    exact ⟨n, ⟨e 6 _ rfl, e 7 _ rfl, e 8 _ rfl, e 9 _ rfl, e 10 _ rfl, e 11 _ rfl⟩, hn⟩
end Go.Proofs.Ytpnkgkchpoehcaa.Sv
