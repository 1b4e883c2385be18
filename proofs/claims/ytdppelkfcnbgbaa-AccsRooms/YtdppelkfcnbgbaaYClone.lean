/-
  slices.Clone and slices.Insert over rows, as contracts: rows of the call's own, in new memory.
-/
import Derived.Test.YtdppelkfcnbgbaaYMem
import Derived.Lib.Overlaps
import Derived.Lib.AppendZerosOnto
import Derived.Lib.SliceRun
import Derived.Laws.CopyRow
import Derived.Laws.CopyOwn
import Derived.Laws.Externs
set_option linter.unusedSimpArgs false
set_option linter.unusedVariables false
set_option maxRecDepth 100000
namespace Go.Proofs.Ytdppelkfcnbgbaa.Ac
open Go.RowKit

/-- copy(d, s) over elements of any number of cells, into a row that is known whole. -/
theorem run_copy_rows (P : Program) (w : World) (dT sT ty elem : TypeId) (sz g o dLen dCap : Nat) (a : Addr) (sLen sCap : Nat) (cur : Array Value) (t : TypeId) (cs : List Value)
    (hu : P.underlying dT = some (.slice elem)) (hs : (P.info? elem).map (·.size) = some sz)
    (hg : w.heap[g]? = some (.cells cur t (0, 0))) (hn : cs.length = Nat.min sLen dLen * sz)
    (hsrc : ∀ j v, cs[j]? = some v → w.cell? (a.add j) = some v) (hfit : o + cs.length ≤ cur.size) (h1 : ∀ v ∈ cs, v.oneCell' = true) :
    (Builtin.copy_ #[dT, sT] ty #[.slice (some ⟨g, o, none⟩) dLen dCap, .slice (some a) sLen sCap]).run P w =
      .ok (goInt (Nat.min sLen dLen)) (w.setRow g (cur.toList.take o ++ cs ++ cur.toList.drop (o + cs.length)).toArray) := by
  have hl := run_loadCells_list (P := P) w a cs hsrc
  have hst := run_storeCells_at P g o t cs 0 cur w hg (by simpa using hfit) h1
  cases hq : P.info? elem with
  | none => simp [hq] at hs
  | some i =>
    have hi : i.size = sz := by simpa [hq] using hs
    simp [Builtin.copy_, run_underlying hu, Builtin.lenOf, Builtin.firstCells, sizeOf, typeInfo, hq, hi, ← hn, hl, hst]

theorem add_lit (b o j : Nat) : (⟨b, o, none⟩ : Addr).add j = ⟨b, o + j, none⟩ := by unfold Addr.add; split <;> simp_all
theorem rows_src {w : World} {b o : Nat} {l : List Row} (h : ∀ (j : Nat) x, l[j]? = some x → RwCells w b (o + j * 5) x) (j : Nat) (u : Value) (hj : (rcs l)[j]? = some u) : w.cell? ⟨b, o + j, none⟩ = some u := by
  have hjl : j < l.length * 5 := by have := (List.getElem?_eq_some_iff.1 hj).1; rwa [rcs_len] at this
  have hq : j / 5 < l.length := by omega
  have hx := List.getElem?_eq_getElem hq
  obtain ⟨c0, c1, c2, c3, c4⟩ := h _ _ hx
  have e := rcs_at l (j / 5) _ hx (j % 5) (Nat.mod_lt _ (by omega))
  rw [show j / 5 * 5 + j % 5 = j by omega, hj] at e
  have hr : j % 5 = 0 ∨ j % 5 = 1 ∨ j % 5 = 2 ∨ j % 5 = 3 ∨ j % 5 = 4 := by omega
  rcases hr with r | r | r | r | r <;> rw [r] at e
  · rw [show o + j = o + j / 5 * 5 by omega, c0]; exact e.symm
  · rw [show o + j = o + j / 5 * 5 + 1 by omega, c1]; exact e.symm
  · rw [show o + j = o + j / 5 * 5 + 2 by omega, c2]; exact e.symm
  · rw [show o + j = o + j / 5 * 5 + 3 by omega, c3]; exact e.symm
  · rw [show o + j = o + j / 5 * 5 + 4 by omega, c4]; exact e.symm

set_option maxHeartbeats 4000000 in
theorem clone_any (l : List Row) (v : Value) (w : World) (h : RwsAt All w v l) (hl : l.length ≤ 1000000) :
    Calls Try.prog 45 #[v] w fun e w' => ∃ v', e = .returned v' ∧ Own w.heap.size w' v' l ∧ Below w.heap.size w w' := by
  obtain ⟨a, c, rfl, h1, h2, h3⟩ := h
  have q22 : ∀ (w : World) (a : Option Addr) (n c n' c' : Nat), (binOp .eql 22 (.slice a n c) (.slice none n' c')).run Try.prog w = .ok (.bool a.isNone) w := fun w a n c n' c' => Lib.run_eql_slice_nil w _ _ a n c n' c' Try.underlying22
  cases a with
  | none =>
    have hl0 : l = [] := by
      rcases h3 with h | ⟨b, o, e, _⟩
      · exact h
      · cases e
    subst hl0
    go_enter Try.func45, Try.ntmps45
    go_wp2
    go_ret
    exact ⟨_, rfl, own_nil _ _, Below.refl _ _⟩
  | some ad =>
    obtain ⟨b, o, s⟩ := ad
    obtain ⟨i0, hi, hz0, hz1, hz2⟩ := infoA
    have HS : Hid (∀ j u, (rcs l)[j]? = some u → w.cell? ((⟨b, o, s⟩ : Addr).add j) = some u) := by
      intro j u hj
      rcases h3 with h | ⟨b', o', e, _, _, hc⟩
      · subst h; simp [rcs] at hj
      · simp only [Option.some.injEq, Addr.mk.injEq] at e
        obtain ⟨rfl, rfl, rfl⟩ := e
        rw [add_lit]
        exact rows_src hc j u hj
    clear h3
    go_enter Try.func45, Try.ntmps45
    go_wp2_with (at_builtin; refine wpList_append_own _ rfl _ _ 22 rfl w.heap.size TA i0 _ 5 48 Try.underlying22 hi hz0 hz1 hz2 rfl (by decide) _ _ _ rfl (World.ownsRow_made w #[] 0 (Nat.le_refl _) (Nat.zero_le _) rfl) ⟨b, o, s⟩ l.length c (rcs l) rfl ?qc1 ?qc2 ?qc3 ?qc4 ?qc5 ?qc6 ?_)
    case qc1 => rw [rcs_len]
    case qc2 => intro j u hj; exact Lib.cell?_alloc_some _ (HS.out j u hj)
    case qc3 => exact rcs_one l
    case qc4 => unfold maxLen; omega
    case qc5 => omega
    case qc6 => simp
    intro v' w1 hown hgrow hnil
    go_wp2
    go_ret
    refine ⟨v', rfl, ?_, ?_⟩
    · unfold Own; simpa using hown
    · exact ((Below.refl _ w).alloc (Nat.le_refl _) _).grown hgrow (by simp) (by intro k hk; simp [Value.ownBlock] at hk; omega)
end Go.Proofs.Ytdppelkfcnbgbaa.Ac
