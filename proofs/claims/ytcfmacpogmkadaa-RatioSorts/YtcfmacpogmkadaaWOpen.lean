/-
  A row of floats that is handed in, opened; a copy of it by append.
-/
import Derived.Test.YtcfmacpogmkadaaWRSort
import Derived.Test.YtcfmacpogmkadaaSSort
import Derived.ChangeSlices
import Derived.Laws.AppendOwn
import Derived.Laws.AppendOwnNone
namespace Go.Proofs.Ytcfmacpogmkadaa
open Go.Shelf Go.RowKit Go.Lib Go.Sort Go.ChangeShapes Go.WideShapes

theorem trod_floats {H : Type} {enc : TypeId × Value → H} {P : Program} {W : World} {base : Nat} {spare : Nat → Bool} {held : Bool} {fuel : Nat} {t : TypeId} {k : FloatKind} {cs : List Value} {x : DataW H × List MemPlace} (ht : P.underlying t = some (.float k)) (h : DataW.trod enc P W base spare held fuel t cs = some x) : ∃ b, cs = [.float k b] ∧ (Lit.float k b).wf = true := by
  cases fuel with
  | zero => simp [DataW.trod] at h
  | succ n =>
    unfold DataW.trod at h
    rw [ht] at h
    split at h <;> simp_all
def cellF (W : World) (ad : Addr) (i : Nat) : UInt64 := match W.cell? (ad.add i) with
  | some (.float .f64 b) => UInt64.ofNat b
  | _ => 0
theorem cellF_eq {W : World} {ad : Addr} {i b : Nat} (h : W.cell? (ad.add i) = some (.float .f64 b)) : cellF W ad i = UInt64.ofNat b := by unfold cellF; rw [h]
theorem open_row {H : Type} {enc : TypeId × Value → H} {W : World} {base : Nat} {spare : Nat → Bool} {held : Bool} {a : Option Addr} {len cap : Nat} {d : DataW H} {p : List MemPlace} (h : DataW.Trod enc Try.prog W base spare held 29 (.slice a len cap) d p) : ∃ f, Row a len f W := by
  obtain ⟨fuel, hf⟩ := h
  rcases DataW.trod_slice Try.underlying29 hf with ⟨h0, _⟩ | ⟨ad, len', cap', elems, rest, n, _, hcs, _, hb, hl, hm, hlen, hel, _, _⟩
  · simp [Value.cells] at h0
    obtain ⟨rfl, rfl, rfl⟩ := h0
    exact ⟨fun _ => 0, fun i hi => by omega⟩
  · simp [Value.cells] at hcs
    obtain ⟨rfl, rfl, rfl⟩ := hcs
    have hc1 : Try.prog.cellsOf 23 = 1 := by kernel_rfl
    have each : ∀ i, i < len → ∃ b, W.cell? (ad.add i) = some (.float .f64 b) ∧ b < 18446744073709551616 := fun i hi => by
      have hy : elems[i]? = some (elems[i]'(by omega)) := List.getElem?_eq_getElem (by omega)
      have hb' := hel i hi
      rw [hy, hc1, Nat.mul_one, Option.bind_eq_some_iff] at hb'
      obtain ⟨cs', hcs, hy'⟩ := hb'
      obtain ⟨b, rfl, hb⟩ := trod_floats Try.underlying23 hy'
      exact ⟨b, cell_of_cells?_one hcs, of_decide_eq_true hb⟩
    refine ⟨cellF W ad, fun i hi => ?_⟩
    obtain ⟨b, hcb, hlt⟩ := each i hi
    obtain ⟨blk, off, spot⟩ := ad
    have hspot : spot = none := by
      obtain ⟨b0, h0, _⟩ := each 0 (by omega)
      simpa [Addr.add] using World.cell?_spot h0
    subst hspot
    rw [cellF_eq hcb]
    rw [add_plain] at hcb
    refine ⟨blk, off, rfl, ?_, ?_⟩
    · rcases Nat.lt_or_ge blk W.heap.size with c | c
      · exact c
      · unfold World.cell? at hcb
        rw [Array.getElem?_eq_none c] at hcb
        cases hcb
    · rw [hcb]
      unfold encF
      simp only [UInt64.toNat_ofNat']
      rw [Nat.mod_eq_of_lt hlt]

theorem info23' : ∃ i, Try.prog.info? 23 = some i ∧ i.zero = some (.float .f64 0) ∧ i.size = 1 ∧ i.bytes = 8 := by
  have hi := info23
  cases hq : Try.prog.info? 23 with
  | none => rw [hq] at hi; cases hi
  | some i =>
    rw [hq] at hi
    simp only [Option.map_some, Option.some.injEq, Prod.mk.injEq] at hi
    exact ⟨i, rfl, hi⟩
theorem app_new (a : Option Addr) (n cap : Nat) (f : Nat → UInt64) (w : World) (hm : n ≤ 300) (hr : Row a n f w) :
    ∃ a' c' w', (Builtin.append_ #[29, 29] 29 #[.slice none 0 0, .slice a n cap]).run Try.prog w = .ok (.slice a' n c') w' ∧ Row a' n f w' ∧ Below w.heap.size w w' := by
  obtain ⟨i, hi, h1, h2, h3⟩ := info23'
  cases a with
  | none =>
    have h0 : n = 0 := by
      rcases Nat.eq_zero_or_pos n with c | c
      · exact c
      · obtain ⟨b, off, e, _⟩ := hr 0 c
        cases e
    subst h0
    refine ⟨none, 0, w, ?_, fun i hi => by omega, Below.refl _ _⟩
    simp [Builtin.append_, run_underlying Try.underlying29, sizeOf, typeInfo, hi, Builtin.lenOf, Builtin.firstCells]
  | some ad =>
    have hnews : ∀ j u, ((List.range n).map fun i => encF (f i))[j]? = some u → w.cell? (ad.add j) = some u := fun j v hv => by
      have hj : j < n := by
        rcases Nat.lt_or_ge j n with c | c
        · exact c
        · rw [List.getElem?_eq_none (by simpa using c)] at hv; cases hv
      obtain ⟨b', off', e, hlt', hc⟩ := hr j hj
      obtain rfl := Option.some.inj e
      rw [List.getElem?_map, List.getElem?_range hj] at hv
      simp only [Option.map_some, Option.some.injEq] at hv
      rw [← hv, add_plain]
      exact hc
    obtain ⟨v', w', hrun, hown, hgr, hnil⟩ := run_append_own (P := Try.prog) w w.heap.size 29 29 23 i (.float .f64 0) 1 8 Try.underlying29 hi h1 h2 h3 rfl (by omega) (.slice none 0 0) 0 [] (World.ownsRow_nil w _ 23 1) ad n cap ((List.range n).map fun i => encF (f i)) (by simp) hnews (fun v hv => by obtain ⟨i, _, rfl⟩ := List.mem_map.1 hv; rfl) (by simp [maxLen]; omega) (by omega) (Nat.le_refl _)
    have hbel : Below w.heap.size w w' := (Below.refl _ w).grown hgr (Nat.le_refl _) (by intro k hk; cases hk)
    rw [Nat.zero_add, List.nil_append] at hown
    rcases hown.2 with ⟨e, h0⟩ | ⟨g, c', cur, e, hg, hh, _, _, _, htake⟩
    · subst h0
      exact ⟨none, 0, w', by rw [hrun, e], fun i hi => by omega, hbel⟩
    · refine ⟨some ⟨g, 0, none⟩, c', w', by rw [hrun, e], fun j hj => ⟨g, 0, rfl, ?_, ?_⟩, hbel⟩
      · exact (Array.getElem?_eq_some_iff.1 hh).1
      · rw [e] at hown
        have := hown.cellAt j (by omega)
        rw [Nat.zero_add, this, List.getElem?_map, List.getElem?_range hj]
        rfl
/-- An append onto nothing, at its place in a walk. -/
theorem wpList_app {w w1 : World} {ops : Array Oper} {rest : List Oper} {o : Oper} {act : Act} {Q : Exit → Act → World → Prop} (hgd : o.guard = none) (s x : Operand)
    (ho : o.op = .call { callee := .builtin .append, args := #[s, x], argTypes := #[29, 29] }) (hty : o.type = 29) (a : Option Addr) (n cap : Nat) (hs : act.eval s = .slice none 0 0) (hx : act.eval x = .slice a n cap) (v : Value)
    (hrun : (Builtin.append_ #[29, 29] 29 #[.slice none 0 0, .slice a n cap]).run Try.prog w = .ok v w1) (h : wpList Try.prog ops Q rest (act.put o.dst v) w1) : wpList Try.prog ops Q (o :: rest) act w := by
  refine wpList_plain hgd fun K hK => ?_
  unfold Oper.wp
  simp only [execOp, ho, resolve, invoke, builtin, hty]
  simp [hs, hx, hrun, Result.andThen]
  exact hK _ _ h
/-- A row of the call's own is a row. -/
theorem row_of_holds {g n : Nat} {d : Array UInt64} {W : World} (h : Holds encF W g 0 d) (hs : d.size = n) (hg : g < W.heap.size) : Row (some ⟨g, 0, none⟩) n (fun i => d[i]!) W := fun i hi => ⟨g, 0, rfl, hg, (h i (by omega)).1⟩
end Go.Proofs.Ytcfmacpogmkadaa
