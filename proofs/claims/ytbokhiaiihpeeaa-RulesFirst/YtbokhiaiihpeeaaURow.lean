/-
  Rows of one condition; rules with an exception that always holds, and with one turned round.
-/
import Derived.Test.YtbokhiaiihpeeaaUWorks
set_option linter.unusedSimpArgs false
set_option linter.unusedVariables false
set_option maxRecDepth 100000
namespace Go.Proofs.Ytbokhiaiihpeeaa.Ul
open Go.RowKit
open Pl (Cd St Ru Pn KsAt StsAt RusAt RuIn Ok1 cdv stv ruv pnv below_alloc below_trans bfive bsix beight below_tr)
open Wo (box_cell box_two keepB heap_far)
open Cm (Ln)

theorem ks_one {w : World} {b : Nat} {c : Cd} {m : Value} {T : TypeId} (h : w.heap[b]? = some (.cells #[.int .i64 c.kind, .string (mk c.lo), .string (mk c.hi), .int .i64 c.n, m] T (0, 0))) (hc : KsAt All w m c.kids) (ho : Ok1 c) : KsAt All w (.slice (some ⟨b, 0, none⟩) 1 1) [c] := by
  have q := fun j => cell_of_row w b j _ _ (0, 0) h
  refine KsAt.mk _ 1 (fun _ => m) rfl (by simp) (by unfold maxLen; simp) (by simpa using ho) (Or.inr ⟨b, 0, rfl, trivial, (Array.getElem?_eq_some_iff.1 h).1, fun j x hj => ?_⟩) (fun j x hj => ?_)
  · match j, hj with
    | 0, hj =>
      obtain rfl : c = x := Option.some.inj hj
      exact ⟨q 0, q 1, q 2, q 3, q 4⟩
    | n + 1, hj => simp at hj
  · match j, hj with
    | 0, hj =>
      obtain rfl : c = x := Option.some.inj hj
      exact hc
    | n + 1, hj => simp at hj
theorem app_never (x : Ln) (net : Int) (rank : Int) (c : Cd) (sets : List St) : appB x net ⟨rank, c, [⟨0, [], [], 0, []⟩], sets⟩ = false := by
  unfold appB
  have : holdsB x net ⟨0, [], [], 0, []⟩ = true := by rw [holdsB]; rfl
  simp [this]
theorem app_turned (x : Ln) (net : Int) (c : Cd) (us : List Cd) : appB x net ⟨0, c, [⟨6, [], [], 0, us⟩], []⟩ = (holdsB x net c && kidB x net us 0) := by
  unfold appB
  have : holdsB x net ⟨6, [], [], 0, us⟩ = !kidB x net us 0 := holds_not x net 0 [] [] us
  simp [this]
end Go.Proofs.Ytbokhiaiihpeeaa.Ul
