/-
  Texts put together (merge.py): PLift.
-/
import Derived.Lib.LaidTab
import Derived.ProofKit
import Derived.OpenShut
import Derived.Carry
import Derived.Lay
import Derived.LaidOnce
import Derived.LaidMore
import Derived.Stop.Joined
import Derived.Shelf.Vars
import Derived.Deep.Strs
import Derived.Lib.SmallJoins
import Derived.Test.YtfkhehkfeibdpaaGreatDoorRows
import Derived.Test.YtfkhehkfeibdpaaGreatDoorMc44
import Derived.Test.YtfkhehkfeibdpaaGreatDoorMc48
/-
  What the rows' conditions give the walks (the table of powers of ten); what the laws use of Parse, in the form in which they meet it.
-/
section
set_option maxRecDepth 100000
set_option linter.unusedVariables false
namespace Go.Proofs.YtfkhehkfeibdpaaGreatDoor.Pl
open Go.ChangeShapes Go.WideShapes Go.ChangeAt Go.RowKit Go.Deep
open Wo (Wd WdsAt box_cell box_two keepB heap_far wds)

abbrev laidL : List (String × DataW Unit) := [("math/bits.deBruijn32tab", Rows.laid_math_bits_deBruijn32tab), ("math/bits.deBruijn64tab", Rows.laid_math_bits_deBruijn64tab), ("internal/strconv.uint64pow10", Rows.laid_internal_strconv_uint64pow10)]
theorem gPow : Tryz.prog.globalNamed "internal/strconv.uint64pow10" = some 0 := by kernel_rfl
theorem tPow : (Tryz.prog.globals[0]?).map (·.type) = some 134 := by kernel_rfl
theorem cW : Tryz.prog.cellsOf 88 = 1 := by kernel_rfl
theorem cPow : Tryz.prog.cellsOf 134 = 20 := by kernel_rfl
theorem of_laid {W : World} (h : laidMetH Tryz.prog laidL W) : Nu.Tab W := by
  rw [MakeChecks.laidMetH_plain _ _ _ (by kernel_rfl)] at h
  obtain ⟨ps, ⟨_, _, _, _, _, _, _, _, _, _, ⟨_, _, _, _, _, _, _, _, _, _, ⟨g, t, cs, fuel, p, q, hg, ht, hvar, hd, _, _⟩, _⟩, _⟩, _⟩ := h
  obtain rfl := Option.some.inj (gPow.symm.trans hg)
  obtain rfl := Option.some.inj (tPow.symm.trans ht)
  unfold Nu.Tab Lib.TabIs
  rw [hvar, ← Lib.cells_of_tab Tryz.underlying134 Tryz.underlying88 cW cPow (zs := Lib.pow10Tab) hd]
theorem pow_lt {W : World} (h : Nu.Tab W) : 0 < W.heap.size := by
  unfold Nu.Tab Lib.TabIs World.var? at h
  simp only [gPow, Option.bind_some] at h
  rcases Nat.lt_or_ge 0 W.heap.size with h' | h'
  · exact h'
  · rw [Array.getElem?_eq_none h'] at h; simp at h
/-- The row's step, with the world's shape kept. -/
theorem lift {H : Type} {enc : TypeId × Value → H} {os : Os} {f : FuncId} {fn : Func} {s : ChangeSpec} (own : ownKnob Tryz.prog.godebug = none) (started : os.Started) (noInit : Tryz.prog.inits.idxOf? f = none) (hfn : Tryz.prog.funcs[f]? = some fn)
    (witness : ∃ (w : World) (tape : Tape) (i : Input), w.os = os ∧ (w.forCall tape i).Shaped Tryz.prog ∧ i.vars = [] ∧ Input.okWide Tryz.prog (w.forCall tape i) .any w.heap.size f i ∧ ((s.pre enc Tryz.prog fn [] false (w.forCall tape i).memory i.args ∧ laidMetH Tryz.prog laidL (w.forCall tape i).memory) ∧ sizedMet enc Tryz.prog fn (OpenSpec.ofChange s) false (w.forCall tape i).memory i.args) ∧ ({} : Assume).holds Tryz.prog (lone (Frame.enter Tryz.prog f i.args .normal) [] (w.forCall tape i)))
    (contract : ∀ (W : World) (base : Nat) (args : Array Value) (ds gs : List (DataW H)) (before : List MemPlace), (∀ (j : Nat) t v, fn.params[j]? = some t → args[j]? = some v → Value.okWide Tryz.prog W .any base t v) → DataW.Whole enc Tryz.prog fn.params.toList s.vars false W args.toList ds gs before → (DataW.weightsEach Tryz.prog (fn.params.toList ++ s.plain.varTypes Tryz.prog) (ds ++ gs)).all (· ≤ reachBytes) = true → Nu.Tab W → Calls Tryz.prog f args W fun e W' => ∃ v, e = .returned v ∧ s.post enc Tryz.prog fn false true false false W args v W') :
    ReturnsInHanded {} Tryz.checked os f .any (fun w args => (s.pre enc Tryz.prog fn [] false w args ∧ laidMetH Tryz.prog laidL w) ∧ sizedMet enc Tryz.prog fn (OpenSpec.ofChange s) false w args) (s.post enc Tryz.prog fn false true false false) := by
  refine returnsInHanded_of_calls own started noInit witness ?_
  intro w tape i _ hsh _ hok hpre _
  obtain ⟨_, _, _, fn', hfn', _, _, _, _, hval⟩ := hok
  obtain rfl : fn' = fn := Option.some.inj (hfn'.symm.trans hfn)
  obtain ⟨⟨⟨ds, gs, before, hw, _⟩, hlaid⟩, hz⟩ := hpre
  have hpw : Nu.Tab (w.forCall tape i) := by
    have h1 := of_laid hlaid
    unfold Nu.Tab Lib.TabIs World.var? at h1 ⊢
    exact h1
  refine (contract (w.forCall tape i) w.heap.size i.args ds gs before hval (DataW.Whole.of_heap (w' := w.forCall tape i) (by rfl) hw) (hz.weights hw) hpw).mono fun e W' ⟨v, he, hp⟩ => ?_
  subst he
  exact ChangeSpec.post_blind hp


/-! ### Parse, as the laws meet it -/
theorem parse_ok {s : ByteArray} {p : Pn} (w : World) (hs : s.size ≤ maxLen) (h : paR s.data.toList = .ok p) :
    Calls Tryz.prog 13 #[.string s] w fun e w' => (∃ (a : Option Addr) (c : Nat), e = .returned (.tuple #[pnv p (.slice a p.rules.length c), .agg #[.int .i64 0, .int .i64 0]]) ∧ RusAt All w' (.slice a p.rules.length c) p.rules) ∧ Below w.heap.size w w' := by
  refine (parse_any s w hs).mono ?_
  rintro e w' ⟨h1, h2⟩
  rw [h] at h1
  obtain ⟨a, n, c, rfl, h3, -⟩ := h1
  obtain ⟨a', c', ea, -, -, -⟩ := h3.form
  obtain ⟨rfl, rfl, rfl⟩ : a = a' ∧ n = p.rules.length ∧ c = c' := by injection ea with e1 e2 e3; exact ⟨e1, e2, e3⟩
  exact ⟨⟨a, c, rfl, h3.move (moves_weak _ fun _ _ _ => trivial)⟩, h2⟩
theorem parse_err {s : ByteArray} {f : Int × Nat} (w : World) (hs : s.size ≤ maxLen) (h : paR s.data.toList = .error f) :
    Calls Tryz.prog 13 #[.string s] w fun e w' => e = .returned (.tuple #[.agg #[.int .i64 0, .int .i64 0, .int .i64 0, .int .i64 0, .int .i64 0, .slice none 0 0], .agg #[.int .i64 f.1, .int .i64 (f.2 : Nat)]]) ∧ Below w.heap.size w w' := by
  refine (parse_any s w hs).mono ?_
  rintro e w' ⟨h1, h2⟩
  rw [h] at h1
  exact ⟨h1, h2⟩
/-- A plan's box and a fault's, laid one behind the other. -/
theorem box_pf (w : World) (a0 a1 a2 a3 a4 a5 f0 f1 : Value) :
    Below w.heap.size w ((w.alloc (.cells #[a0, a1, a2, a3, a4, a5] 24)).alloc (.cells #[f0, f1] 32)) ∧
    ((w.alloc (.cells #[a0, a1, a2, a3, a4, a5] 24)).alloc (.cells #[f0, f1] 32)).heap[w.heap.size]? = some (.cells #[a0, a1, a2, a3, a4, a5] 24 (0, 0)) ∧
    ((w.alloc (.cells #[a0, a1, a2, a3, a4, a5] 24)).alloc (.cells #[f0, f1] 32)).heap[w.heap.size + 1]? = some (.cells #[f0, f1] 32 (0, 0)) := by
  refine ⟨below_trans (below_alloc w _) (below_alloc _ _), keepB (heap_alloc_new w _) (below_alloc _ _), ?_⟩
  have h := heap_alloc_new (w.alloc (.cells #[a0, a1, a2, a3, a4, a5] 24)) (.cells #[f0, f1] 32)
  rwa [show (w.alloc (.cells #[a0, a1, a2, a3, a4, a5] 24)).heap.size = w.heap.size + 1 by simp] at h
theorem once_size {s : Tx} {p : Pn} (hs : s.length ≤ 6000) (h : paR s = .ok p) : szW (planW p) ≤ 65536 := by
  unfold paR at h
  split at h
  · next he =>
    obtain ⟨h1, h2⟩ := plan_once h
    have hV : Wo.spV s = wds 0 s := by
      unfold Wo.spE at he
      unfold Wo.spV
      rw [if_neg (by omega)] at he ⊢
      split at he
      · next hg => rw [if_pos hg]
      · cases he
    rw [hV] at h2
    have hsum := Wo.wds_sum s 0
    have hlen := Wo.wds_len s 0
    have hsz : szW ((wds 0 s).map (·.1)) ≤ 2 * s.length := by
      have e : ∀ l : List Tx, szW l = (l.map List.length).sum + l.length := fun l => by
        induction l with
        | nil => rfl
        | cons x r ih => rw [sz_cons, ih]; simp; omega
      rw [e, List.length_map]
      have : (((wds 0 s).map (·.1)).map List.length).sum ≤ s.length := hsum
      omega
    omega
  · cases h
theorem pr_len {p : Pn} (h : prE p = 0) : (prV p).length ≤ 65536 := by
  unfold prV
  rw [if_pos h]
  unfold prE at h
  split at h
  · split at h
    · cases h
    · omega
  · cases h
theorem rules_ok {p : Pn} (h : planB p = true) : ∀ r ∈ p.rules, ruleB r = true := by
  unfold planB at h
  simp only [Bool.and_eq_true, List.all_eq_true] at h
  exact h.2.2.2
theorem pair_cells {w : World} {q : Nat} {a b : Value} {T : TypeId} (h : w.heap[q]? = some (.cells #[a, b] T (0, 0))) : w.cell? ⟨q, 0, none⟩ = some a ∧ w.cell? ⟨q, 1, none⟩ = some b := by
  refine ⟨?_, ?_⟩ <;> rw [cell_of_row w q _ _ T (0, 0) h] <;> rfl
end Go.Proofs.YtfkhehkfeibdpaaGreatDoor.Pl
end
