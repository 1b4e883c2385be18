/-
  Signs and segments that are handed in, opened; what the rows' conditions give the walks; that an input fits.
-/
import Derived.Test.YtjidoificijcfaaDoorRows
import Derived.Test.YtjidoificijcfaaDoorQSplit
import Derived.Lib.LaidTab
import Derived.ProofKit
import Derived.OpenShut
import Derived.Carry
import Derived.Lay
import Derived.LaidOnce
import Derived.LaidMore
import Derived.Stop.Joined
import Derived.Shelf.Vars
import Derived.Deep.Strs
import Derived.Lib.SmallJoins
set_option maxRecDepth 100000
namespace Go.Proofs.YtjidoificijcfaaDoor
open Go.ChangeShapes Go.WideShapes Go.ChangeAt Go.RowKit Go.Deep

abbrev laidL : List (String × DataW Unit) := [("math/bits.deBruijn32tab", Rows.laid_math_bits_deBruijn32tab), ("math/bits.deBruijn64tab", Rows.laid_math_bits_deBruijn64tab), ("internal/strconv.uint64pow10", Rows.laid_internal_strconv_uint64pow10), ("unicode/utf8.acceptRanges", Rows.laid_unicode_utf8_acceptRanges), ("unicode/utf8.first", Rows.laid_unicode_utf8_first)]
theorem gPow : Tryd.prog.globalNamed "internal/strconv.uint64pow10" = some 0 := by kernel_rfl
theorem tPow : (Tryd.prog.globals[0]?).map (·.type) = some 106 := by kernel_rfl
theorem cW : Tryd.prog.cellsOf 36 = 1 := by kernel_rfl
theorem cPow : Tryd.prog.cellsOf 106 = 20 := by kernel_rfl
theorem of_laid {W : World} (h : laidMetH Tryd.prog laidL W) : Nu.Tab W := by
  rw [MakeChecks.laidMetH_plain _ _ _ (by kernel_rfl)] at h
  obtain ⟨ps, ⟨_, _, _, _, _, _, _, _, _, _, ⟨_, _, _, _, _, _, _, _, _, _, ⟨g, t, cs, fuel, p, q, hg, ht, hvar, hd, _, _⟩, _⟩, _⟩, _⟩ := h
  obtain rfl := Option.some.inj (gPow.symm.trans hg)
  obtain rfl := Option.some.inj (tPow.symm.trans ht)
  unfold Nu.Tab Lib.TabIs
  rw [hvar, ← Lib.cells_of_tab Tryd.underlying106 Tryd.underlying36 cW cPow (zs := Lib.pow10Tab) hd]
theorem pow_lt {W : World} (h : Nu.Tab W) : 0 < W.heap.size := by
  unfold Nu.Tab Lib.TabIs World.var? at h
  simp only [gPow, Option.bind_some] at h
  rcases Nat.lt_or_ge 0 W.heap.size with h' | h'
  · exact h'
  · rw [Array.getElem?_eq_none h'] at h; simp at h
theorem tab_shaped {W : World} (h : W.ShapedOpen Tryd.prog) (hp : Nu.Tab W) : Tab W := by
  obtain ⟨m, hm⟩ := Tryd.laysM146.s1_3 W h
  exact ⟨⟨World.block_lt_of_cell? _ _ hm, pow_lt hp⟩, ⟨m, hm⟩, hp⟩

/-- The row's step, with the world's shape kept. -/
theorem lift {H : Type} {enc : TypeId × Value → H} {os : Os} {f : FuncId} {fn : Func} {s : ChangeSpec} (own : ownKnob Tryd.prog.godebug = none) (started : os.Started) (noInit : Tryd.prog.inits.idxOf? f = none) (hfn : Tryd.prog.funcs[f]? = some fn)
    (witness : ∃ (w : World) (tape : Tape) (i : Input), w.os = os ∧ (w.forCall tape i).Shaped Tryd.prog ∧ i.vars = [] ∧ Input.okWide Tryd.prog (w.forCall tape i) .any w.heap.size f i ∧ ((s.pre enc Tryd.prog fn [] false (w.forCall tape i).memory i.args ∧ laidMetH Tryd.prog laidL (w.forCall tape i).memory) ∧ sizedMet enc Tryd.prog fn (OpenSpec.ofChange s) false (w.forCall tape i).memory i.args) ∧ ({} : Assume).holds Tryd.prog (lone (Frame.enter Tryd.prog f i.args .normal) [] (w.forCall tape i)))
    (contract : ∀ (W : World) (base : Nat) (args : Array Value) (ds gs : List (DataW H)) (before : List MemPlace), (∀ (j : Nat) t v, fn.params[j]? = some t → args[j]? = some v → Value.okWide Tryd.prog W .any base t v) → DataW.Whole enc Tryd.prog fn.params.toList s.vars false W args.toList ds gs before → (DataW.weightsEach Tryd.prog (fn.params.toList ++ s.plain.varTypes Tryd.prog) (ds ++ gs)).all (· ≤ reachBytes) = true → Tab W → Calls Tryd.prog f args W fun e W' => ∃ v, e = .returned v ∧ s.post enc Tryd.prog fn false true false false W args v W') :
    ReturnsInHanded {} Tryd.checked os f .any (fun w args => (s.pre enc Tryd.prog fn [] false w args ∧ laidMetH Tryd.prog laidL w) ∧ sizedMet enc Tryd.prog fn (OpenSpec.ofChange s) false w args) (s.post enc Tryd.prog fn false true false false) := by
  refine returnsInHanded_of_calls own started noInit witness ?_
  intro w tape i _ hsh _ hok hpre _
  obtain ⟨_, _, _, fn', hfn', _, _, _, _, hval⟩ := hok
  obtain rfl : fn' = fn := Option.some.inj (hfn'.symm.trans hfn)
  obtain ⟨⟨⟨ds, gs, before, hw, _⟩, hlaid⟩, hz⟩ := hpre
  have hpw : Nu.Tab (w.forCall tape i) := by
    have h1 := of_laid hlaid
    unfold Nu.Tab Lib.TabIs World.var? at h1 ⊢
    exact h1
  refine (contract (w.forCall tape i) w.heap.size i.args ds gs before hval (DataW.Whole.of_heap (w' := w.forCall tape i) (by rfl) hw) (hz.weights hw) (tab_shaped hsh hpw)).mono fun e W' ⟨v, he, hp⟩ => ?_
  subst he
  exact ChangeSpec.post_blind hp

/-! ### Opened -/
variable {H : Type} {enc : TypeId × Value → H} {W : World} {base : Nat} {spare : Nat → Bool} {held : Bool}
theorem byte_of {n : Int} (h : (Lit.int .u8 n).wf = true) : ∃ c : UInt8, n = (c.toNat : Int) := by
  have hb : 0 ≤ n ∧ n ≤ 255 := by simpa [Lit.wf, IntKind.min, IntKind.max, IntKind.signed, IntKind.bits] using h
  refine ⟨UInt8.ofNat n.toNat, ?_⟩
  rw [UInt8.toNat_ofNat']
  omega
theorem open_byte {fuel : Nat} {v : Value} {y : DataW H × List MemPlace} (h : DataW.trod enc Tryd.prog W base spare held fuel 5 [v] = some y) : ∃ c : UInt8, v = .int .u8 c.toNat := by
  obtain ⟨n, h1, _, h3⟩ := DataW.trod_int Tryd.underlying5 h
  obtain ⟨c, rfl⟩ := byte_of h3
  exact ⟨c, by simpa using h1⟩
theorem open_delims {r : Reach} {b0 : Nat} {v : Value} {d : DataW H} {p : List MemPlace} (hv : Value.okWide Tryd.prog W r b0 23 v) (h : DataW.Trod enc Tryd.prog W base spare held 23 v d p) : ∃ e p s : UInt8, v = dv e p s := by
  obtain ⟨v0, v1, v2, y0, y1, y2, n, rfl, _, _, h0, h1, h2⟩ := Go.Joins.open_agg3 Tryd.underlying23 (by kernel_rfl) (by kernel_rfl) hv h
  obtain ⟨e, rfl⟩ := open_byte h0
  obtain ⟨p, rfl⟩ := open_byte h1
  obtain ⟨s, rfl⟩ := open_byte h2
  exact ⟨e, p, s, rfl⟩

theorem w_mem {P : Program} {e : TypeId} : ∀ {ds : List (DataW H)} {d : DataW H}, d ∈ ds → ∀ {x : Nat}, x ∈ d.weights P e → x ∈ DataW.weightsAll P e ds
  | [], d, h, _, _ => by cases h
  | c :: r, d, h, x, hx => by
    unfold DataW.weightsAll
    rcases List.mem_cons.1 h with rfl | h
    · exact List.mem_append_left _ hx
    · exact List.mem_append_right _ (w_mem h hx)
theorem w_slice {P : Program} {t e : TypeId} (ht : P.underlying t = some (.slice e)) {elems rest : List (DataW H)} {d : DataW H} (hd : d ∈ elems) {x : Nat} (hx : x ∈ d.weights P e) : x ∈ (DataW.slice elems rest).weights P t := by
  unfold DataW.weights
  rw [ht]
  exact List.mem_cons_of_mem _ (List.mem_append_left _ (w_mem hd hx))
theorem w_struct {P : Program} {t u : TypeId} {fs : Array Field} (ht : P.underlying t = some (.struct fs)) (hf : fs.toList.map (·.type) = [u]) {d : DataW H} {x : Nat} (hx : x ∈ d.weights P u) : x ∈ (DataW.agg [d]).weights P t := by
  unfold DataW.weights
  rw [ht]
  simp only
  rw [hf]
  unfold DataW.weightsEach
  exact List.mem_append_left _ hx
/-- A row, its elements opened by a law of theirs. -/
theorem open_rows {α : Type} [Inhabited α] {R : World → Value → α → Prop} {sz : α → List Nat} {t e : TypeId} (ht : Tryd.prog.underlying t = some (.slice e)) (hc : Tryd.prog.cellsOf e = 1)
    (each : ∀ {n : Nat} {v : Value} {y : DataW H × List MemPlace}, DataW.trod enc Tryd.prog W base spare held n e [v] = some y → ∃ a, R W v a ∧ ∀ z ∈ sz a, z ∈ y.1.weights Tryd.prog e)
    {fuel : Nat} {v : Value} {y : DataW H × List MemPlace} (h : DataW.trod enc Tryd.prog W base spare held fuel t [v] = some y) : ∃ xs : List α, RowAt All R W v xs ∧ ∀ x ∈ xs, ∀ z ∈ sz x, z ∈ y.1.weights Tryd.prog t := by
  rcases open_slice1 ht hc h with ⟨h0, _⟩ | ⟨a, len, cap, m, n, V, D, Pl, hv, hb, hl, hm, hmm, rfl, hx⟩
  · obtain rfl : v = .slice none 0 0 := by simpa using h0
    exact ⟨[], ⟨none, 0, rfl, by simp, by simp [maxLen], Or.inl rfl⟩, by simp⟩
  · obtain rfl : v = .slice (some a) len cap := by simpa using hv
    have hlm : len ≤ m := by rw [hmm]; split <;> omega
    obtain ⟨Y, hY⟩ := choose_lt (α := α) (p := fun i y => R W (V i) y ∧ ∀ z ∈ sz y, z ∈ (D i).weights Tryd.prog e) (n := len) (fun i hi => each (hx i (by omega)).2)
    have hxl : ((List.range len).map Y).length = len := by simp
    refine ⟨(List.range len).map Y, ⟨some a, cap, by rw [hxl], by rw [hxl]; exact hl, hm, ?_⟩, fun x hx1 z hz => ?_⟩
    · rcases Nat.eq_zero_or_pos len with h0 | h0
      · subst h0; exact Or.inl rfl
      · obtain ⟨b, o, sp⟩ := a
        have hsp : sp = none := by simpa [Addr.add] using World.cell?_spot (hx 0 (by omega)).1
        subst hsp
        refine Or.inr ⟨b, o, rfl, trivial, World.block_lt_of_cell? W ⟨b, o + 0, none⟩ (by have := (hx 0 (by omega)).1; rwa [add_off] at this), fun j x hj => ?_⟩
        have hjl : j < len := by have := (List.getElem?_eq_some_iff.1 hj).1; simpa using this
        rw [List.getElem?_map, List.getElem?_range hjl] at hj
        obtain rfl := Option.some.inj hj
        exact ⟨V j, by have := (hx j (by omega)).1; rwa [add_off] at this, (hY j hjl).1⟩
    · obtain ⟨i, hi, rfl⟩ := List.mem_map.1 hx1
      have hil := List.mem_range.1 hi
      exact w_slice ht (List.mem_map.2 ⟨i, hi, rfl⟩) ((hY i hil).2 z hz)
def szT (x : Tx) : List Nat := [x.length]
def szE (ps : List Tx) : List Nat := ps.flatMap szT
def szG (g : Sg) : List Nat := g.flatMap szE
theorem each_tx {n : Nat} {v : Value} {y : DataW H × List MemPlace} (h : DataW.trod enc Tryd.prog W base spare held n 9 [v] = some y) : ∃ a, StrAt W v a ∧ ∀ z ∈ szT a, z ∈ y.1.weights Tryd.prog 9 := by
  obtain ⟨s, h1, h2, _⟩ := DataW.trod_string Tryd.underlying9 h
  refine ⟨s.data.toList, ?_, fun z hz => ?_⟩
  · show v = .string (mk _)
    rw [mk_of]
    simpa using h1
  · rw [h2]
    unfold DataW.weights
    exact hz
theorem each_el {n : Nat} {v : Value} {y : DataW H × List MemPlace} (h : DataW.trod enc Tryd.prog W base spare held n 41 [v] = some y) : ∃ a, TxAt All W v a ∧ ∀ z ∈ szE a, z ∈ y.1.weights Tryd.prog 41 := by
  obtain ⟨xs, h1, h2⟩ := open_rows (R := StrAt) (sz := szT) Tryd.underlying41 (by kernel_rfl) each_tx h
  refine ⟨xs, h1, fun z hz => ?_⟩
  obtain ⟨x, hx, hz⟩ := List.mem_flatMap.1 hz
  exact h2 x hx z hz
theorem each_els {n : Nat} {v : Value} {y : DataW H × List MemPlace} (h : DataW.trod enc Tryd.prog W base spare held n 38 [v] = some y) : ∃ a, ElAt All W v a ∧ ∀ z ∈ szG a, z ∈ y.1.weights Tryd.prog 38 := by
  obtain ⟨xs, h1, h2⟩ := open_rows (R := TxAt All) (sz := szE) Tryd.underlying38 (by kernel_rfl) each_el h
  refine ⟨xs, h1, fun z hz => ?_⟩
  obtain ⟨x, hx, hz⟩ := List.mem_flatMap.1 hz
  exact h2 x hx z hz
theorem each_sg {n : Nat} {v : Value} {y : DataW H × List MemPlace} (h : DataW.trod enc Tryd.prog W base spare held n 40 [v] = some y) : ∃ a, ElAt All W v a ∧ ∀ z ∈ szG a, z ∈ y.1.weights Tryd.prog 40 := by
  obtain ⟨xs, n', _, rfl, _, hlen, hf⟩ := DataW.trod_struct Tryd.underlying40 h
  match xs, hlen with
  | [y0], _ =>
    have h0 : DataW.trod enc Tryd.prog W base spare held n' 38 ((([v] : List Value).drop 0).take (Tryd.prog.cellsOf 38)) = some y0 := hf 0 _ rfl
    have hcel : Tryd.prog.cellsOf 38 = 1 := by kernel_rfl
    rw [hcel] at h0
    obtain ⟨a, h1, h2⟩ := each_els (y := y0) (by simpa using h0)
    exact ⟨a, h1, fun z hz => w_struct Tryd.underlying40 (by rfl) (h2 z hz)⟩
theorem open_segs {v : Value} {d : DataW H} {p : List MemPlace} (h : DataW.Trod enc Tryd.prog W base spare held 24 v d p) (hs : ∃ a n c, v = .slice a n c) (hw : ∀ z ∈ d.weights Tryd.prog 24, z ≤ reachBytes) : ∃ l : List Sg, SgAt All W v l ∧ ∀ g ∈ l, ∀ ps ∈ g, ∀ x ∈ ps, x.length ≤ 281474976710656 := by
  obtain ⟨fuel, hf⟩ := h
  obtain ⟨a, n, c, rfl⟩ := hs
  obtain ⟨l, h1, h2⟩ := open_rows (R := ElAt All) (sz := szG) Tryd.underlying24 (by kernel_rfl) each_sg (v := .slice a n c) (by simpa [Value.cells] using hf)
  refine ⟨l, h1, fun g hg ps hps x hx => ?_⟩
  have := hw _ (h2 g hg x.length (List.mem_flatMap.2 ⟨ps, hps, List.mem_flatMap.2 ⟨x, hx, by simp [szT]⟩⟩))
  unfold reachBytes at this
  omega
end Go.Proofs.YtjidoificijcfaaDoor
