/-
  What the laws lay of their own: a row of one claim, of two; what stands in the boxes.
-/
import Derived.Test.YtpmlmoclocccoaaDoorLWeight
import Derived.Test.YtpmlmoclocccoaaDoorLWorks
set_option linter.unusedSimpArgs false
namespace Go.Proofs.YtpmlmoclocccoaaDoor.Cm
open Go.RowKit

theorem cls_one (W : World) (x : Cl) (m : Value) (h : LnsAt All W m x.lines) : ClsAt All (W.alloc (boxc x m)) (.slice (some ⟨W.heap.size, 0, none⟩) 1 1) [x] := by
  refine ⟨_, 1, rfl, by simp, by simp [maxLen], Or.inr ⟨W.heap.size, 0, rfl, trivial, by simp, fun j y hj => ?_⟩⟩
  match j, hj with
  | 0, hj =>
    simp at hj
    subst hj
    refine ⟨m, ?_, LnsAt.move h (Below.moves (below_alloc W _))⟩
    have := ClBox.new W x m 24
    exact this
abbrev boxcc (x y : Cl) (m m' : Value) : Obj := .cells #[.string (mk x.id), .string (mk x.mem), .string (mk x.fam), .int .i64 x.net, .int .i64 x.does, .string (mk x.ref), m, .string (mk y.id), .string (mk y.mem), .string (mk y.fam), .int .i64 y.net, .int .i64 y.does, .string (mk y.ref), m'] 24
theorem cls_two (W : World) (x y : Cl) (m m' : Value) (h : LnsAt All W m x.lines) (h' : LnsAt All W m' y.lines) : ClsAt All (W.alloc (boxcc x y m m')) (.slice (some ⟨W.heap.size, 0, none⟩) 2 2) [x, y] := by
  refine ⟨_, 2, rfl, by simp, by simp [maxLen], Or.inr ⟨W.heap.size, 0, rfl, trivial, by simp, fun j z hj => ?_⟩⟩
  match j, hj with
  | 0, hj =>
    simp at hj
    subst hj
    refine ⟨m, ?_, LnsAt.move h (Below.moves (below_alloc W _))⟩
    refine ⟨?_, ?_, ?_, ?_, ?_, ?_, ?_⟩ <;> simp
  | 1, hj =>
    simp at hj
    subst hj
    refine ⟨m', ?_, LnsAt.move h' (Below.moves (below_alloc W _))⟩
    refine ⟨?_, ?_, ?_, ?_, ?_, ?_, ?_⟩ <;> simp
end Go.Proofs.YtpmlmoclocccoaaDoor.Cm
