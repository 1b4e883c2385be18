/-
  What share.Bear answers, as a contract.
-/
import Derived.Test.YtgbfckjmbmmgpabHTake
import Derived.Test.YtgbfckjmbmmgpabCScl
import Derived.Deep.RegionHeld3
import Derived.Deep.RegionWith
set_option linter.unusedSimpArgs false
set_option linter.unusedVariables false
set_option maxRecDepth 100000
namespace Go.Proofs.Ytgbfckjmbmmgpab.Sh
open Go.RowKit

theorem results_tmp4 {fn : Func} {t u v x : Tmp} (h : fn.results = #[.tmp t, .tmp u, .tmp v, .tmp x]) (tmps : Array Value) (P : Program) (w : World) :
    (results fn tmps).run P w = .ok (.tuple #[tmps.getD t undef, tmps.getD u undef, tmps.getD v undef, tmps.getD x undef]) w := by
  simp [results, h]
theorem same_heap {w w' : World} {b : Nat} {o : Obj} (h : w'.heap = w.heap) (hb : w.heap[b]? = some o) : w'.heap[b]? = some o := by rw [h]; exact hb
theorem bfour {w : World} {b : Nat} {v0 v1 v2 v3 : Value} {T : TypeId} (h : w.heap[b]? = some (.cells #[v0, v1, v2, v3] T (0, 0))) : w.cell? ⟨b, 0, none⟩ = some v0 ∧ w.cell? ⟨b, 1, none⟩ = some v1 ∧ w.cell? ⟨b, 2, none⟩ = some v2 ∧ w.cell? ⟨b, 3, none⟩ = some v3 := by
  refine ⟨?_, ?_, ?_, ?_⟩ <;> (rw [cell_of_row w b _ _ T (0, 0) h]; rfl)
theorem alloc_two (w : World) (cs ds : Array Value) (t u : TypeId) : ((w.alloc (.cells cs t)).alloc (.cells ds u)).heap[w.heap.size + 1]? = some (.cells ds u (0, 0)) := by
  have := alloc_new (w.alloc (.cells cs t)) ds u
  rwa [World.size_alloc] at this
/-- Numbers that are taken from one another. -/
def Fits (x l v m : Int) : Prop := 0 ≤ x ∧ x ≤ 10000000000000 ∧ 0 ≤ l ∧ l ≤ 10000000000000 ∧ least x l = v ∧ l - v = m
theorem take_to (x l v m : Int) (q : Nat) (w : World) (h : w.heap[q]? = some (.cells #[.int .i64 l] 2 (0, 0))) (hn : Fits x l v m) :
    Calls Try.prog 13 #[.int .i64 x, .pointer (some ⟨q, 0, none⟩)] w fun e w' => e = .returned (.int .i64 v) ∧ Took q m w w' := by
  obtain ⟨x0, x1, l0, l1, hv, hm⟩ := hn
  have := take_any x l q w h x0 x1 l0 l1
  rw [hv, hm] at this
  exact this
set_option maxHeartbeats 4000000 in
theorem bear_bad (al : Int) (co dd : Bool) (cp cn de oo net : Int) (w : World) (hAll : [al, cp, de, oo].all Ce.good = false) :
    Calls Try.prog 4 #[.int .i64 al, .agg #[.bool co, .bool dd, .int .i64 cp, .int .i64 cn], .int .i64 de, .int .i64 oo, .int .i64 net] w fun e w' => e = .returned (.tuple #[.int .i64 0, .int .i64 0, .int .i64 0, .int .i64 1]) ∧ Below w.heap.size w w' := by
  have HAM := Lib.hid (amounts_any [al, cp, de, oo] (w.heap.size + 1) 4 4 ((w.alloc (.cells #[.bool co, .bool dd, .int .i64 cp, .int .i64 cn] 23)).alloc (.cells #[.int .i64 al, .int .i64 cp, .int .i64 de, .int .i64 oo] 2)) (alloc_two w _ _ _ _) rfl (by simp))
  have HX0 := Lib.hid (keepB (alloc_new w #[.bool co, .bool dd, .int .i64 cp, .int .i64 cn] 23) (below_alloc (w.alloc (.cells #[.bool co, .bool dd, .int .i64 cp, .int .i64 cn] 23)) (.cells #[.int .i64 al, .int .i64 cp, .int .i64 de, .int .i64 oo] 2)))
  have HB0 := Lib.hid (below_trans (below_alloc w (.cells #[.bool co, .bool dd, .int .i64 cp, .int .i64 cn] 23)) (below_alloc (w.alloc (.cells #[.bool co, .bool dd, .int .i64 cp, .int .i64 cn] 23)) (.cells #[.int .i64 al, .int .i64 cp, .int .i64 de, .int .i64 oo] 2)))
  rw [hAll] at HAM
  clear hAll
  go_enter Try.func4, Try.ntmps4
  go_wp2_with fail
  go_at_call 6
  refine HAM.out.mono ?_
  rintro e w' ⟨rfl, rfl⟩
  go_wp2
  (try simp only [Exit.inBlock, Exit.then]); refine bodyPost_ret (results_tmp4 rfl _ _ _) rfl ?_
  exact ⟨rfl, HB0.out⟩
end Go.Proofs.Ytgbfckjmbmmgpab.Sh
