/-
  Texts put together (merge.py): XOpen.
-/
import Derived.Lib.LaidTab
import Derived.ProofKit
import Derived.OpenShut
import Derived.Carry
import Derived.Lay
import Derived.LaidOnce
import Derived.LaidMore
import Derived.Stop.Joined
import Derived.Shelf.Vars
import Derived.Deep.Strs
import Derived.Lib.SmallJoins
import Derived.Test.YtgloihilnbjmeaaDoorRows
import Derived.Test.YtgloihilnbjmeaaDoorMp22
import Derived.Test.YtgloihilnbjmeaaDoorMp35
/-
  Services, rows and tables of edits that are handed in, opened; what the rows' conditions give the walks; that an input fits. (Written by gen_open.py.)
-/
section
set_option maxRecDepth 100000
set_option linter.unusedVariables false
namespace Go.Proofs.YtgloihilnbjmeaaDoor.Xo
open Go.ChangeShapes Go.WideShapes Go.ChangeAt Go.RowKit Go.Deep
open Cm
open Ex (Ed EdOk EdsAt EdCells edv)

abbrev laidL : List (String × DataW Unit) := [("math/bits.deBruijn32tab", Rows.laid_math_bits_deBruijn32tab), ("math/bits.deBruijn64tab", Rows.laid_math_bits_deBruijn64tab), ("internal/strconv.uint64pow10", Rows.laid_internal_strconv_uint64pow10)]
theorem gPow : Tryd.prog.globalNamed "internal/strconv.uint64pow10" = some 0 := by kernel_rfl
theorem tPow : (Tryd.prog.globals[0]?).map (·.type) = some 116 := by kernel_rfl
theorem cW : Tryd.prog.cellsOf 105 = 1 := by kernel_rfl
theorem cPow : Tryd.prog.cellsOf 116 = 20 := by kernel_rfl
theorem of_laid {W : World} (h : laidMetH Tryd.prog laidL W) : Nu.Tab W := by
  rw [MakeChecks.laidMetH_plain _ _ _ (by kernel_rfl)] at h
  obtain ⟨ps, ⟨_, _, _, _, _, _, _, _, _, _, ⟨_, _, _, _, _, _, _, _, _, _, ⟨g, t, cs, fuel, p, q, hg, ht, hvar, hd, _, _⟩, _⟩, _⟩, _⟩ := h
  obtain rfl := Option.some.inj (gPow.symm.trans hg)
  obtain rfl := Option.some.inj (tPow.symm.trans ht)
  unfold Nu.Tab Lib.TabIs
  rw [hvar, ← Lib.cells_of_tab Tryd.underlying116 Tryd.underlying105 cW cPow (zs := Lib.pow10Tab) hd]
theorem cI : Tryd.prog.cellsOf 3 = 1 := by kernel_rfl
/-- The row's step. -/
theorem lift {H : Type} {enc : TypeId × Value → H} {os : Os} {f : FuncId} {fn : Func} {s : ChangeSpec} (own : ownKnob Tryd.prog.godebug = none) (started : os.Started) (noInit : Tryd.prog.inits.idxOf? f = none) (hfn : Tryd.prog.funcs[f]? = some fn)
    (witness : ∃ (w : World) (tape : Tape) (i : Input), w.os = os ∧ (w.forCall tape i).Shaped Tryd.prog ∧ i.vars = [] ∧ Input.okWide Tryd.prog (w.forCall tape i) .any w.heap.size f i ∧ ((s.pre enc Tryd.prog fn [] false (w.forCall tape i).memory i.args ∧ laidMetH Tryd.prog laidL (w.forCall tape i).memory) ∧ sizedMet enc Tryd.prog fn (OpenSpec.ofChange s) false (w.forCall tape i).memory i.args) ∧ ({} : Assume).holds Tryd.prog (lone (Frame.enter Tryd.prog f i.args .normal) [] (w.forCall tape i)))
    (contract : ∀ (W : World) (base : Nat) (args : Array Value) (ds gs : List (DataW H)) (before : List MemPlace), (∀ (j : Nat) t v, fn.params[j]? = some t → args[j]? = some v → Value.okWide Tryd.prog W .any base t v) → DataW.Whole enc Tryd.prog fn.params.toList s.vars false W args.toList ds gs before → (DataW.weightsEach Tryd.prog (fn.params.toList ++ s.plain.varTypes Tryd.prog) (ds ++ gs)).all (· ≤ reachBytes) = true → Nu.Tab W → Calls Tryd.prog f args W fun e W' => ∃ v, e = .returned v ∧ s.post enc Tryd.prog fn false true false false W args v W') :
    ReturnsInHanded {} Tryd.checked os f .any (fun w args => (s.pre enc Tryd.prog fn [] false w args ∧ laidMetH Tryd.prog laidL w) ∧ sizedMet enc Tryd.prog fn (OpenSpec.ofChange s) false w args) (s.post enc Tryd.prog fn false true false false) := by
  refine returnsInHanded_of_calls own started noInit witness ?_
  intro w tape i _ hsh _ hok hpre _
  obtain ⟨_, _, _, fn', hfn', _, _, _, _, hval⟩ := hok
  obtain rfl : fn' = fn := Option.some.inj (hfn'.symm.trans hfn)
  obtain ⟨⟨⟨ds, gs, before, hw, _⟩, hlaid⟩, hz⟩ := hpre
  have hpw : Nu.Tab (w.forCall tape i) := by
    have h1 := of_laid hlaid
    unfold Nu.Tab Lib.TabIs World.var? at h1 ⊢
    exact h1
  refine (contract (w.forCall tape i) w.heap.size i.args ds gs before hval (DataW.Whole.of_heap (w' := w.forCall tape i) (by rfl) hw) (hz.weights hw) hpw).mono fun e W' ⟨v, he, hp⟩ => ?_
  subst he
  exact ChangeSpec.post_blind hp

theorem addOff (b o k : Nat) : (⟨b, o, none⟩ : Addr).add k = ⟨b, o + k, none⟩ := by unfold Addr.add; split <;> simp_all
variable {H : Type} {enc : TypeId × Value → H} {W : World} {base : Nat} {spare : Nat → Bool} {held : Bool}
def Fits (d : DataW H) (t : TypeId) : Prop := ∀ z ∈ d.weights Tryd.prog t, z ≤ reachBytes
theorem w_mem {P : Program} {e : TypeId} : ∀ {ds : List (DataW H)} {d : DataW H}, d ∈ ds → ∀ {x : Nat}, x ∈ d.weights P e → x ∈ DataW.weightsAll P e ds
  | [], d, h, _, _ => by cases h
  | c :: r, d, h, x, hx => by
    unfold DataW.weightsAll
    rcases List.mem_cons.1 h with rfl | h
    · exact List.mem_append_left _ hx
    · exact List.mem_append_right _ (w_mem h hx)
theorem fits_elem {t e : TypeId} (ht : Tryd.prog.underlying t = some (.slice e)) {elems rest : List (DataW H)} (h : Fits (.slice elems rest) t) {d : DataW H} (hd : d ∈ elems) : Fits d e := fun z hz => h z (by
  unfold DataW.weights
  rw [ht]
  exact List.mem_cons_of_mem _ (List.mem_append_left _ (w_mem hd hz)))
theorem fits_len {t e : TypeId} (ht : Tryd.prog.underlying t = some (.slice e)) {elems rest : List (DataW H)} (h : Fits (.slice elems rest) t) (he : 1 ≤ Tryd.prog.bytesOf e) : elems.length ≤ 281474976710656 := by
  have h1 := h ((elems.length + rest.length) * Tryd.prog.bytesOf e) (by
    unfold DataW.weights
    rw [ht]
    exact List.mem_cons_self ..)
  have h2 : (elems.length + rest.length) * 1 ≤ (elems.length + rest.length) * Tryd.prog.bytesOf e := Nat.mul_le_mul_left _ he
  unfold reachBytes at h1
  omega
theorem fits_part {t : TypeId} {fs : Array Field} (ht : Tryd.prog.underlying t = some (.struct fs)) {parts : List (DataW H)} (h : Fits (.agg parts) t) (k : Nat) : ∀ (ts : List TypeId) (hts : fs.toList.map (·.type) = ts) {u : TypeId} {d : DataW H}, ts[k]? = some u → parts[k]? = some d → Fits d u := by
  intro ts hts u d hu hd z hz
  refine h z ?_
  unfold DataW.weights
  rw [ht]
  simp only
  rw [hts]
  clear hts h ht
  induction ts generalizing k parts with
  | nil => simp at hu
  | cons t0 r ih =>
    cases parts with
    | nil => simp at hd
    | cons p0 pr =>
      unfold DataW.weightsEach
      cases k with
      | zero =>
        simp at hu hd
        subst hu hd
        exact List.mem_append_left _ hz
      | succ k => exact List.mem_append_right _ (ih k (by simpa using hu) (by simpa using hd))
theorem c9 : Tryd.prog.cellsOf 9 = 1 := by kernel_rfl
theorem c64 : Tryd.prog.cellsOf 2 = 1 := by kernel_rfl
theorem cTs : Tryd.prog.cellsOf 40 = 1 := by kernel_rfl
theorem cL : Tryd.prog.cellsOf 42 = 6 := by kernel_rfl
theorem each_tx {n : Nat} {v : Value} {y : DataW H × List MemPlace} (h : DataW.trod enc Tryd.prog W base spare held n 9 [v] = some y) : ∃ a : Tx, v = .string (mk a) ∧ (Fits y.1 9 → a.length ≤ 281474976710656) := by
  obtain ⟨s, h1, h2, _⟩ := DataW.trod_string Tryd.underlying9 h
  refine ⟨s.data.toList, ?_, fun hf => ?_⟩
  · rw [mk_of]
    simpa using h1
  · rw [h2] at hf
    have := hf s.data.toList.length (by unfold DataW.weights; simp)
    unfold reachBytes at this
    omega
theorem each_int {n : Nat} {v : Value} {y : DataW H × List MemPlace} (h : DataW.trod enc Tryd.prog W base spare held n 3 [v] = some y) : ∃ a : Int, v = .int .i64 a ∧ I64 a := by
  obtain ⟨a, h1, _, h3⟩ := DataW.trod_int Tryd.underlying3 h
  refine ⟨a, by simpa using h1, ?_⟩
  simpa [I64, Lit.wf, IntKind.min, IntKind.max, IntKind.signed, IntKind.bits] using h3
theorem each_i64 {n : Nat} {v : Value} {y : DataW H × List MemPlace} (h : DataW.trod enc Tryd.prog W base spare held n 2 [v] = some y) : ∃ a : Int, v = .int .i64 a ∧ I64 a := by
  obtain ⟨a, h1, _, h3⟩ := DataW.trod_int Tryd.underlying2 h
  refine ⟨a, by simpa using h1, ?_⟩
  simpa [I64, Lit.wf, IntKind.min, IntKind.max, IntKind.signed, IntKind.bits] using h3
theorem open_txs {fuel : Nat} {v : Value} {y : DataW H × List MemPlace} (h : DataW.trod enc Tryd.prog W base spare held fuel 40 [v] = some y) : ∃ xs : List Tx, TxAt All W v xs ∧ (Fits y.1 40 → xs.length ≤ 281474976710656 ∧ ∀ x ∈ xs, x.length ≤ 281474976710656) := by
  rcases open_slice1 Tryd.underlying40 c9 h with ⟨h0, _⟩ | ⟨a, len, cap, m, n, V, D, Pl, hv, hb, hl, hm, hmm, rfl, hx⟩
  · obtain rfl : v = .slice none 0 0 := by simpa using h0
    exact ⟨[], TxAt.nil _ _, fun _ => by simp⟩
  · obtain rfl : v = .slice (some a) len cap := by simpa using hv
    have hlm : len ≤ m := by rw [hmm]; split <;> omega
    obtain ⟨Y, hY⟩ := choose_lt (α := Tx) (p := fun i y => V i = .string (mk y) ∧ (Fits (D i) 9 → y.length ≤ 281474976710656)) (n := len) (fun i hi => each_tx (hx i (by omega)).2)
    have hxl : ((List.range len).map Y).length = len := by simp
    refine ⟨(List.range len).map Y, ⟨some a, cap, by rw [hxl], by rw [hxl]; exact hl, hm, ?_⟩, fun hf => ⟨?_, fun x hx1 => ?_⟩⟩
    · rcases Nat.eq_zero_or_pos len with h0 | h0
      · subst h0; exact Or.inl rfl
      · obtain ⟨b, o, sp⟩ := a
        have hsp : sp = none := by simpa [Addr.add] using World.cell?_spot (hx 0 (by omega)).1
        subst hsp
        refine Or.inr ⟨b, o, rfl, trivial, World.block_lt_of_cell? W ⟨b, o + 0, none⟩ (by have := (hx 0 (by omega)).1; rwa [addOff] at this), fun j x hj => ?_⟩
        have hjl : j < len := by have := (List.getElem?_eq_some_iff.1 hj).1; simpa using this
        rw [List.getElem?_map, List.getElem?_range hjl] at hj
        obtain rfl := Option.some.inj hj
        exact ⟨V j, by have := (hx j (by omega)).1; rwa [addOff] at this, (hY j hjl).1⟩
    · have := fits_len Tryd.underlying40 hf (by decide +kernel)
      simpa using this
    · obtain ⟨i, hi, rfl⟩ := List.mem_map.1 hx1
      have hil := List.mem_range.1 hi
      exact (hY i hil).2 (fits_elem Tryd.underlying40 hf (List.mem_map.2 ⟨i, hi, rfl⟩))
theorem each_line {n : Nat} {cs : List Value} {y : DataW H × List MemPlace} (h : DataW.trod enc Tryd.prog W base spare held n 42 cs = some y) : ∃ (x : Ln) (m : Value), cs = [.string (mk x.proc), m, .int .i64 x.date, .int .i64 x.units, .int .i64 x.billed, .int .i64 x.prior] ∧ TxAt All W m x.mods ∧ (Fits y.1 42 → LnOk x) := by
  obtain ⟨xs, n', _, rfl, hlen, hxl, hf⟩ := DataW.trod_struct Tryd.underlying42 h
  rw [cL] at hlen
  match xs, hxl, cs, hlen with
  | [y0, y1, y2, y3, y4, y5], _, [v0, v1, v2, v3, v4, v5], _ =>
    have h0 : DataW.trod enc Tryd.prog W base spare held n' 9 ((([v0, v1, v2, v3, v4, v5] : List Value).drop 0).take (Tryd.prog.cellsOf 9)) = some y0 := hf 0 _ rfl
    have h1 : DataW.trod enc Tryd.prog W base spare held n' 40 ((([v0, v1, v2, v3, v4, v5] : List Value).drop 1).take (Tryd.prog.cellsOf 40)) = some y1 := hf 1 _ rfl
    have h2 : DataW.trod enc Tryd.prog W base spare held n' 3 ((([v0, v1, v2, v3, v4, v5] : List Value).drop 2).take (Tryd.prog.cellsOf 3)) = some y2 := hf 2 _ rfl
    have h3 : DataW.trod enc Tryd.prog W base spare held n' 3 ((([v0, v1, v2, v3, v4, v5] : List Value).drop 3).take (Tryd.prog.cellsOf 3)) = some y3 := hf 3 _ rfl
    have h4 : DataW.trod enc Tryd.prog W base spare held n' 2 ((([v0, v1, v2, v3, v4, v5] : List Value).drop 4).take (Tryd.prog.cellsOf 2)) = some y4 := hf 4 _ rfl
    have h5 : DataW.trod enc Tryd.prog W base spare held n' 2 ((([v0, v1, v2, v3, v4, v5] : List Value).drop 5).take (Tryd.prog.cellsOf 2)) = some y5 := hf 5 _ rfl
    rw [c9] at h0
    rw [cTs] at h1
    rw [cI] at h2 h3
    rw [c64] at h4 h5
    obtain ⟨a0, rfl, k0⟩ := each_tx (y := y0) (by simpa using h0)
    obtain ⟨a1, t1, k1⟩ := open_txs (y := y1) (by simpa using h1)
    obtain ⟨a2, rfl, i2⟩ := each_int (y := y2) (by simpa using h2)
    obtain ⟨a3, rfl, i3⟩ := each_int (y := y3) (by simpa using h3)
    obtain ⟨a4, rfl, i4⟩ := each_i64 (y := y4) (by simpa using h4)
    obtain ⟨a5, rfl, i5⟩ := each_i64 (y := y5) (by simpa using h5)
    refine ⟨⟨a0, a1, a2, a3, a4, a5⟩, v1, rfl, t1, fun hfit => ?_⟩
    have q0 := fits_part Tryd.underlying42 hfit 0 _ rfl rfl rfl
    have q1 := fits_part Tryd.underlying42 hfit 1 _ rfl rfl rfl
    exact ⟨i2, i3, i4, i5, k0 q0, (k1 q1).1, (k1 q1).2⟩
theorem agg_of {r : Reach} {b0 : Nat} {t : TypeId} {fs : Array Field} {v : Value} {d : DataW H} {p : List MemPlace} (hs : Tryd.prog.underlying t = some (.struct fs)) (hv : Value.okWide Tryd.prog W r b0 t v) (h : DataW.Trod enc Tryd.prog W base spare held t v d p) : ∃ (cs : List Value) (fuel : Nat), v = .agg cs.toArray ∧ DataW.trod enc Tryd.prog W base spare held fuel t cs = some (d, p) := by
  obtain ⟨cs, rfl, _⟩ := okWide_struct hs hv
  obtain ⟨fuel, hf⟩ := h
  exact ⟨cs.toList, fuel, by simp, by simpa [Value.cells] using hf⟩
theorem cB : Tryd.prog.cellsOf 4 = 1 := by kernel_rfl
theorem open_lines {fuel : Nat} {v : Value} {y : DataW H × List MemPlace} (h : DataW.trod enc Tryd.prog W base spare held fuel 37 [v] = some y) : ∃ xs : List Ln, LnsAt All W v xs ∧ (Fits y.1 37 → xs.length ≤ 281474976710656 ∧ ∀ x ∈ xs, LnOk x) := by
  rcases open_slice Tryd.underlying37 h with ⟨h0, _⟩ | ⟨a, len, cap, m, n, D, Pl, hv, hb, hl, hm, hmm, rfl, hx⟩
  · obtain rfl : v = .slice none 0 0 := by simpa using h0
    exact ⟨[], ⟨none, 0, rfl, by simp, by simp [maxLen], Or.inl rfl⟩, fun _ => by simp⟩
  · obtain rfl : v = .slice (some a) len cap := by simpa using hv
    have hlm : len ≤ m := by rw [hmm]; split <;> omega
    rw [cL] at hx
    obtain ⟨Y, hY⟩ := @choose_lt Ln ⟨⟨[], [], 0, 0, 0, 0⟩⟩ len (fun i y => ∃ mv, (∀ r, r < 6 → W.cell? ((a.add (i * 6)).add r) = [.string (mk y.proc), mv, .int .i64 y.date, .int .i64 y.units, .int .i64 y.billed, .int .i64 y.prior][r]?) ∧ TxAt All W mv y.mods ∧ (Fits (D i) 42 → LnOk y)) (fun i hi => by
      obtain ⟨cs', g1, g2⟩ := hx i (by omega)
      obtain ⟨x, mv, rfl, q1, q2⟩ := each_line g2
      obtain ⟨_, _, hcell⟩ := World.cells?_some g1
      exact ⟨x, mv, fun r hr => hcell r hr, q1, q2⟩)
    have hxl : ((List.range len).map Y).length = len := by simp
    refine ⟨(List.range len).map Y, ⟨some a, cap, by rw [hxl], by rw [hxl]; exact hl, hm, ?_⟩, fun hf => ⟨?_, fun x hx1 => ?_⟩⟩
    · rcases Nat.eq_zero_or_pos len with h0 | h0
      · subst h0; exact Or.inl rfl
      · obtain ⟨b, o, sp⟩ := a
        obtain ⟨mv0, hc0, -, -⟩ := hY 0 h0
        have hc00 := hc0 0 (by omega)
        have hsp : sp = none := by
          have := World.cell?_spot hc00
          simpa [Addr.add] using this
        subst hsp
        rw [addOff, addOff] at hc00
        refine Or.inr ⟨b, o, rfl, trivial, World.block_lt_of_cell? W _ hc00, fun j x hj => ?_⟩
        have hjl : j < len := by have := (List.getElem?_eq_some_iff.1 hj).1; simpa using this
        rw [List.getElem?_map, List.getElem?_range hjl] at hj
        obtain rfl := Option.some.inj hj
        obtain ⟨mv, hc, ht, -⟩ := hY j hjl
        refine ⟨mv, ?_, ht⟩
        have e : ∀ r, r < 6 → W.cell? ⟨b, o + j * 6 + r, none⟩ = [.string (mk (Y j).proc), mv, .int .i64 (Y j).date, .int .i64 (Y j).units, .int .i64 (Y j).billed, .int .i64 (Y j).prior][r]? := fun r hr => by
          have := hc r hr
          rwa [addOff, addOff] at this
        exact ⟨e 0 (by omega), e 1 (by omega), e 2 (by omega), e 3 (by omega), e 4 (by omega), e 5 (by omega)⟩
    · have := fits_len Tryd.underlying37 hf (by decide +kernel)
      simpa using this
    · obtain ⟨i, hi, rfl⟩ := List.mem_map.1 hx1
      have hil := List.mem_range.1 hi
      obtain ⟨_, _, _, q⟩ := hY i hil
      exact q (fits_elem Tryd.underlying37 hf (List.mem_map.2 ⟨i, hi, rfl⟩))
theorem open_lns {v : Value} {d : DataW H} {p : List MemPlace} (hs : ∃ a n c, v = .slice a n c) (h : DataW.Trod enc Tryd.prog W base spare held 37 v d p) (hw : Fits d 37) : ∃ l : List Ln, LnsAt All W v l ∧ l.length ≤ 281474976710656 ∧ ∀ f ∈ l, LnOk f := by
  obtain ⟨fuel, hf⟩ := h
  obtain ⟨a, n, c, rfl⟩ := hs
  obtain ⟨l, h1, h2⟩ := open_lines (v := .slice a n c) (by simpa [Value.cells] using hf)
  exact ⟨l, h1, h2 hw⟩
theorem each_bool {n : Nat} {v : Value} {y : DataW H × List MemPlace} (h : DataW.trod enc Tryd.prog W base spare held n 4 [v] = some y) : ∃ b : Bool, v = .bool b := by
  obtain ⟨b, h1, _⟩ := DataW.trod_bool Tryd.underlying4 h
  exact ⟨b, by simpa using h1⟩
theorem cE : Tryd.prog.cellsOf 49 = 5 := by kernel_rfl
theorem each_edit {n : Nat} {cs : List Value} {y : DataW H × List MemPlace} (h : DataW.trod enc Tryd.prog W base spare held n 49 cs = some y) : ∃ (x : Ed), cs = [.int .i64 x.kind, .string (mk x.a), .string (mk x.b), .bool x.bypass, .int .i64 x.n] ∧ (Fits y.1 49 → EdOk x) := by
  obtain ⟨xs, n', _, rfl, hlen, hxl, hf⟩ := DataW.trod_struct Tryd.underlying49 h
  rw [cE] at hlen
  match xs, hxl, cs, hlen with
  | [y0, y1, y2, y3, y4], _, [v0, v1, v2, v3, v4], _ =>
    have h0 : DataW.trod enc Tryd.prog W base spare held n' 3 ((([v0, v1, v2, v3, v4] : List Value).drop 0).take (Tryd.prog.cellsOf 3)) = some y0 := hf 0 _ rfl
    have h1 : DataW.trod enc Tryd.prog W base spare held n' 9 ((([v0, v1, v2, v3, v4] : List Value).drop 1).take (Tryd.prog.cellsOf 9)) = some y1 := hf 1 _ rfl
    have h2 : DataW.trod enc Tryd.prog W base spare held n' 9 ((([v0, v1, v2, v3, v4] : List Value).drop 2).take (Tryd.prog.cellsOf 9)) = some y2 := hf 2 _ rfl
    have h3 : DataW.trod enc Tryd.prog W base spare held n' 4 ((([v0, v1, v2, v3, v4] : List Value).drop 3).take (Tryd.prog.cellsOf 4)) = some y3 := hf 3 _ rfl
    have h4 : DataW.trod enc Tryd.prog W base spare held n' 3 ((([v0, v1, v2, v3, v4] : List Value).drop 4).take (Tryd.prog.cellsOf 3)) = some y4 := hf 4 _ rfl
    rw [cI] at h0 h4
    rw [c9] at h1 h2
    rw [cB] at h3
    obtain ⟨a0, rfl, i0⟩ := each_int (y := y0) (by simpa using h0)
    obtain ⟨a1, rfl, k1⟩ := each_tx (y := y1) (by simpa using h1)
    obtain ⟨a2, rfl, k2⟩ := each_tx (y := y2) (by simpa using h2)
    obtain ⟨a3, rfl⟩ := each_bool (y := y3) (by simpa using h3)
    obtain ⟨a4, rfl, i4⟩ := each_int (y := y4) (by simpa using h4)
    refine ⟨⟨a0, a1, a2, a3, a4⟩, rfl, fun hfit => ?_⟩
    have q1 := fits_part Tryd.underlying49 hfit 1 _ rfl rfl rfl
    have q2 := fits_part Tryd.underlying49 hfit 2 _ rfl rfl rfl
    exact ⟨⟨k1 q1, k2 q2⟩, i0, i4⟩
theorem open_edits0 {fuel : Nat} {v : Value} {y : DataW H × List MemPlace} (h : DataW.trod enc Tryd.prog W base spare held fuel 22 [v] = some y) : ∃ xs : List Ed, EdsAt All W v xs ∧ (Fits y.1 22 → xs.length ≤ 281474976710656 ∧ ∀ x ∈ xs, EdOk x) := by
  rcases open_slice Tryd.underlying22 h with ⟨h0, _⟩ | ⟨a, len, cap, m, n, D, Pl, hv, hb, hl, hm, hmm, rfl, hx⟩
  · obtain rfl : v = .slice none 0 0 := by simpa using h0
    exact ⟨[], ⟨none, 0, rfl, by simp, by simp [maxLen], Or.inl rfl⟩, fun _ => by simp⟩
  · obtain rfl : v = .slice (some a) len cap := by simpa using hv
    have hlm : len ≤ m := by rw [hmm]; split <;> omega
    rw [cE] at hx
    obtain ⟨Y, hY⟩ := @choose_lt Ed ⟨⟨0, [], [], false, 0⟩⟩ len (fun i y => (∀ r, r < 5 → W.cell? ((a.add (i * 5)).add r) = [.int .i64 y.kind, .string (mk y.a), .string (mk y.b), .bool y.bypass, .int .i64 y.n][r]?) ∧ (Fits (D i) 49 → EdOk y)) (fun i hi => by
      obtain ⟨cs', g1, g2⟩ := hx i (by omega)
      obtain ⟨x, rfl, q2⟩ := each_edit g2
      obtain ⟨_, _, hcell⟩ := World.cells?_some g1
      exact ⟨x, fun r hr => hcell r hr, q2⟩)
    have hxl : ((List.range len).map Y).length = len := by simp
    refine ⟨(List.range len).map Y, ⟨some a, cap, by rw [hxl], by rw [hxl]; exact hl, hm, ?_⟩, fun hf => ⟨?_, fun x hx1 => ?_⟩⟩
    · rcases Nat.eq_zero_or_pos len with h0 | h0
      · subst h0; exact Or.inl rfl
      · obtain ⟨b, o, sp⟩ := a
        obtain ⟨hc0, -⟩ := hY 0 h0
        have hc00 := hc0 0 (by omega)
        have hsp : sp = none := by
          have := World.cell?_spot hc00
          simpa [Addr.add] using this
        subst hsp
        rw [addOff, addOff] at hc00
        refine Or.inr ⟨b, o, rfl, trivial, World.block_lt_of_cell? W _ hc00, fun j x hj => ?_⟩
        have hjl : j < len := by have := (List.getElem?_eq_some_iff.1 hj).1; simpa using this
        rw [List.getElem?_map, List.getElem?_range hjl] at hj
        obtain rfl := Option.some.inj hj
        obtain ⟨hc, -⟩ := hY j hjl
        have e : ∀ r, r < 5 → W.cell? ⟨b, o + j * 5 + r, none⟩ = [.int .i64 (Y j).kind, .string (mk (Y j).a), .string (mk (Y j).b), .bool (Y j).bypass, .int .i64 (Y j).n][r]? := fun r hr => by
          have := hc r hr
          rwa [addOff, addOff] at this
        exact ⟨e 0 (by omega), e 1 (by omega), e 2 (by omega), e 3 (by omega), e 4 (by omega)⟩
    · have := fits_len Tryd.underlying22 hf (by decide +kernel)
      simpa using this
    · obtain ⟨i, hi, rfl⟩ := List.mem_map.1 hx1
      have hil := List.mem_range.1 hi
      obtain ⟨_, q⟩ := hY i hil
      exact q (fits_elem Tryd.underlying22 hf (List.mem_map.2 ⟨i, hi, rfl⟩))
theorem open_edits {v : Value} {d : DataW H} {p : List MemPlace} (hs : ∃ a n c, v = .slice a n c) (h : DataW.Trod enc Tryd.prog W base spare held 22 v d p) (hw : Fits d 22) : ∃ l : List Ed, EdsAt All W v l ∧ l.length ≤ 281474976710656 ∧ ∀ f ∈ l, EdOk f := by
  obtain ⟨fuel, hf⟩ := h
  obtain ⟨a, n, c, rfl⟩ := hs
  obtain ⟨l, h1, h2⟩ := open_edits0 (v := .slice a n c) (by simpa [Value.cells] using hf)
  exact ⟨l, h1, h2 hw⟩
end Go.Proofs.YtgloihilnbjmeaaDoor.Xo
end
