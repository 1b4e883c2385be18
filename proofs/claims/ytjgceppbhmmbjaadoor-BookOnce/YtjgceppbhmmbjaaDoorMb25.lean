/-
  Texts put together (merge.py): LOpen.
-/
import Derived.Lib.LaidTab
import Derived.ProofKit
import Derived.OpenShut
import Derived.Carry
import Derived.Lay
import Derived.LaidOnce
import Derived.LaidMore
import Derived.Stop.Joined
import Derived.Deep.Strs
import Derived.Lib.SmallJoins
import Derived.Test.YtjgceppbhmmbjaaDoorRows
import Derived.Test.YtjgceppbhmmbjaaDoorMb8
/-
  Services, claims and batches that are handed in, opened; what the rows' conditions give the walks; that an input fits.
-/
section
set_option maxRecDepth 100000
set_option linter.unusedVariables false
namespace Go.Proofs.YtjgceppbhmmbjaaDoor.Cm
open Go.ChangeShapes Go.WideShapes Go.ChangeAt Go.RowKit Go.Deep

abbrev laidL : List (String × DataW Unit) := [("leechbook/date.lengths", Rows.laid_leechbook_date_lengths)]
theorem gLen : Tryd.prog.globalNamed "leechbook/date.lengths" = some 0 := by kernel_rfl
theorem tLen : (Tryd.prog.globals[0]?).map (·.type) = some 88 := by kernel_rfl
theorem cI : Tryd.prog.cellsOf 3 = 1 := by kernel_rfl
theorem cTab : Tryd.prog.cellsOf 88 = 12 := by kernel_rfl
theorem of_laid {W : World} (h : laidMetH Tryd.prog laidL W) : Da.Tab W := by
  rw [MakeChecks.laidMetH_plain _ _ _ (by kernel_rfl)] at h
  have t : Lib.TabIs Tryd.prog W "leechbook/date.lengths" .i64 Da.lens := Lib.tabIs_of_head gLen tLen Tryd.underlying88 Tryd.underlying3 cI cTab (rest := []) h
  exact fun i hi => t.cell gLen i hi

/-- The row's step, with the sizes' condition kept. -/
theorem lift {H : Type} {enc : TypeId × Value → H} {os : Os} {f : FuncId} {fn : Func} {s : ChangeSpec} (own : ownKnob Tryd.prog.godebug = none) (started : os.Started) (noInit : Tryd.prog.inits.idxOf? f = none) (hfn : Tryd.prog.funcs[f]? = some fn)
    (witness : ∃ (w : World) (tape : Tape) (i : Input), w.os = os ∧ (w.forCall tape i).Shaped Tryd.prog ∧ i.vars = [] ∧ Input.okWide Tryd.prog (w.forCall tape i) .any w.heap.size f i ∧ ((s.pre enc Tryd.prog fn [] false (w.forCall tape i).memory i.args ∧ laidMetH Tryd.prog laidL (w.forCall tape i).memory) ∧ sizedMet enc Tryd.prog fn (OpenSpec.ofChange s) false (w.forCall tape i).memory i.args) ∧ ({} : Assume).holds Tryd.prog (lone (Frame.enter Tryd.prog f i.args .normal) [] (w.forCall tape i)))
    (contract : ∀ (W : World) (base : Nat) (args : Array Value) (ds gs : List (DataW H)) (before : List MemPlace), (∀ (j : Nat) t v, fn.params[j]? = some t → args[j]? = some v → Value.okWide Tryd.prog W .any base t v) → DataW.Whole enc Tryd.prog fn.params.toList s.vars false W args.toList ds gs before → (DataW.weightsEach Tryd.prog (fn.params.toList ++ s.plain.varTypes Tryd.prog) (ds ++ gs)).all (· ≤ reachBytes) = true → Da.Tab W → Calls Tryd.prog f args W fun e W' => ∃ v, e = .returned v ∧ s.post enc Tryd.prog fn false true false false W args v W') :
    ReturnsInHanded {} Tryd.checked os f .any (fun w args => (s.pre enc Tryd.prog fn [] false w args ∧ laidMetH Tryd.prog laidL w) ∧ sizedMet enc Tryd.prog fn (OpenSpec.ofChange s) false w args) (s.post enc Tryd.prog fn false true false false) := by
  refine returnsInHanded_of_calls own started noInit witness ?_
  intro w tape i _ hsh _ hok hpre _
  obtain ⟨_, _, _, fn', hfn', _, _, _, _, hval⟩ := hok
  obtain rfl : fn' = fn := Option.some.inj (hfn'.symm.trans hfn)
  obtain ⟨⟨⟨ds, gs, before, hw, _⟩, hlaid⟩, hz⟩ := hpre
  have hpw : Da.Tab (w.forCall tape i) := fun j hj => of_laid hlaid j hj
  refine (contract (w.forCall tape i) w.heap.size i.args ds gs before hval (DataW.Whole.of_heap (w' := w.forCall tape i) (by rfl) hw) (hz.weights hw) hpw).mono fun e W' ⟨v, he, hp⟩ => ?_
  subst he
  exact ChangeSpec.post_blind hp

/-! ### Opened -/
theorem addOff (b o k : Nat) : (⟨b, o, none⟩ : Addr).add k = ⟨b, o + k, none⟩ := by unfold Addr.add; split <;> simp_all
variable {H : Type} {enc : TypeId × Value → H} {W : World} {base : Nat} {spare : Nat → Bool} {held : Bool}
def Fits (d : DataW H) (t : TypeId) : Prop := ∀ z ∈ d.weights Tryd.prog t, z ≤ reachBytes
theorem w_mem {P : Program} {e : TypeId} : ∀ {ds : List (DataW H)} {d : DataW H}, d ∈ ds → ∀ {x : Nat}, x ∈ d.weights P e → x ∈ DataW.weightsAll P e ds
  | [], d, h, _, _ => by cases h
  | c :: r, d, h, x, hx => by
    unfold DataW.weightsAll
    rcases List.mem_cons.1 h with rfl | h
    · exact List.mem_append_left _ hx
    · exact List.mem_append_right _ (w_mem h hx)
theorem fits_elem {t e : TypeId} (ht : Tryd.prog.underlying t = some (.slice e)) {elems rest : List (DataW H)} (h : Fits (.slice elems rest) t) {d : DataW H} (hd : d ∈ elems) : Fits d e := fun z hz => h z (by
  unfold DataW.weights
  rw [ht]
  exact List.mem_cons_of_mem _ (List.mem_append_left _ (w_mem hd hz)))
theorem fits_len {t e : TypeId} (ht : Tryd.prog.underlying t = some (.slice e)) {elems rest : List (DataW H)} (h : Fits (.slice elems rest) t) (he : 1 ≤ Tryd.prog.bytesOf e) : elems.length ≤ 281474976710656 := by
  have h1 := h ((elems.length + rest.length) * Tryd.prog.bytesOf e) (by
    unfold DataW.weights
    rw [ht]
    exact List.mem_cons_self ..)
  have h2 : (elems.length + rest.length) * 1 ≤ (elems.length + rest.length) * Tryd.prog.bytesOf e := Nat.mul_le_mul_left _ he
  unfold reachBytes at h1
  omega
theorem fits_part {t : TypeId} {fs : Array Field} (ht : Tryd.prog.underlying t = some (.struct fs)) {parts : List (DataW H)} (h : Fits (.agg parts) t) (k : Nat) : ∀ (ts : List TypeId) (hts : fs.toList.map (·.type) = ts) {u : TypeId} {d : DataW H}, ts[k]? = some u → parts[k]? = some d → Fits d u := by
  intro ts hts u d hu hd z hz
  refine h z ?_
  unfold DataW.weights
  rw [ht]
  simp only
  rw [hts]
  clear hts h ht
  induction ts generalizing k parts with
  | nil => simp at hu
  | cons t0 r ih =>
    cases parts with
    | nil => simp at hd
    | cons p0 pr =>
      unfold DataW.weightsEach
      cases k with
      | zero =>
        simp at hu hd
        subst hu hd
        exact List.mem_append_left _ hz
      | succ k => exact List.mem_append_right _ (ih k (by simpa using hu) (by simpa using hd))
theorem c9 : Tryd.prog.cellsOf 9 = 1 := by kernel_rfl
theorem c64 : Tryd.prog.cellsOf 2 = 1 := by kernel_rfl
theorem cTs : Tryd.prog.cellsOf 56 = 1 := by kernel_rfl
theorem cLs : Tryd.prog.cellsOf 23 = 1 := by kernel_rfl
theorem cCs : Tryd.prog.cellsOf 37 = 1 := by kernel_rfl
theorem cL : Tryd.prog.cellsOf 58 = 6 := by kernel_rfl
theorem cC : Tryd.prog.cellsOf 25 = 7 := by kernel_rfl
theorem each_tx {n : Nat} {v : Value} {y : DataW H × List MemPlace} (h : DataW.trod enc Tryd.prog W base spare held n 9 [v] = some y) : ∃ a : Tx, v = .string (mk a) ∧ (Fits y.1 9 → a.length ≤ 281474976710656) := by
  obtain ⟨s, h1, h2, _⟩ := DataW.trod_string Tryd.underlying9 h
  refine ⟨s.data.toList, ?_, fun hf => ?_⟩
  · rw [mk_of]
    simpa using h1
  · rw [h2] at hf
    have := hf s.data.toList.length (by unfold DataW.weights; simp)
    unfold reachBytes at this
    omega
theorem each_int {n : Nat} {v : Value} {y : DataW H × List MemPlace} (h : DataW.trod enc Tryd.prog W base spare held n 3 [v] = some y) : ∃ a : Int, v = .int .i64 a ∧ I64 a := by
  obtain ⟨a, h1, _, h3⟩ := DataW.trod_int Tryd.underlying3 h
  refine ⟨a, by simpa using h1, ?_⟩
  simpa [I64, Lit.wf, IntKind.min, IntKind.max, IntKind.signed, IntKind.bits] using h3
theorem each_i64 {n : Nat} {v : Value} {y : DataW H × List MemPlace} (h : DataW.trod enc Tryd.prog W base spare held n 2 [v] = some y) : ∃ a : Int, v = .int .i64 a ∧ I64 a := by
  obtain ⟨a, h1, _, h3⟩ := DataW.trod_int Tryd.underlying2 h
  refine ⟨a, by simpa using h1, ?_⟩
  simpa [I64, Lit.wf, IntKind.min, IntKind.max, IntKind.signed, IntKind.bits] using h3
theorem open_txs {fuel : Nat} {v : Value} {y : DataW H × List MemPlace} (h : DataW.trod enc Tryd.prog W base spare held fuel 56 [v] = some y) : ∃ xs : List Tx, TxAt All W v xs ∧ (Fits y.1 56 → xs.length ≤ 281474976710656 ∧ ∀ x ∈ xs, x.length ≤ 281474976710656) := by
  rcases open_slice1 Tryd.underlying56 c9 h with ⟨h0, _⟩ | ⟨a, len, cap, m, n, V, D, Pl, hv, hb, hl, hm, hmm, rfl, hx⟩
  · obtain rfl : v = .slice none 0 0 := by simpa using h0
    exact ⟨[], TxAt.nil _ _, fun _ => by simp⟩
  · obtain rfl : v = .slice (some a) len cap := by simpa using hv
    have hlm : len ≤ m := by rw [hmm]; split <;> omega
    obtain ⟨Y, hY⟩ := choose_lt (α := Tx) (p := fun i y => V i = .string (mk y) ∧ (Fits (D i) 9 → y.length ≤ 281474976710656)) (n := len) (fun i hi => each_tx (hx i (by omega)).2)
    have hxl : ((List.range len).map Y).length = len := by simp
    refine ⟨(List.range len).map Y, ⟨some a, cap, by rw [hxl], by rw [hxl]; exact hl, hm, ?_⟩, fun hf => ⟨?_, fun x hx1 => ?_⟩⟩
    · rcases Nat.eq_zero_or_pos len with h0 | h0
      · subst h0; exact Or.inl rfl
      · obtain ⟨b, o, sp⟩ := a
        have hsp : sp = none := by simpa [Addr.add] using World.cell?_spot (hx 0 (by omega)).1
        subst hsp
        refine Or.inr ⟨b, o, rfl, trivial, World.block_lt_of_cell? W ⟨b, o + 0, none⟩ (by have := (hx 0 (by omega)).1; rwa [addOff] at this), fun j x hj => ?_⟩
        have hjl : j < len := by have := (List.getElem?_eq_some_iff.1 hj).1; simpa using this
        rw [List.getElem?_map, List.getElem?_range hjl] at hj
        obtain rfl := Option.some.inj hj
        exact ⟨V j, by have := (hx j (by omega)).1; rwa [addOff] at this, (hY j hjl).1⟩
    · have := fits_len Tryd.underlying56 hf (by decide +kernel)
      simpa using this
    · obtain ⟨i, hi, rfl⟩ := List.mem_map.1 hx1
      have hil := List.mem_range.1 hi
      exact (hY i hil).2 (fits_elem Tryd.underlying56 hf (List.mem_map.2 ⟨i, hi, rfl⟩))
theorem each_line {n : Nat} {cs : List Value} {y : DataW H × List MemPlace} (h : DataW.trod enc Tryd.prog W base spare held n 58 cs = some y) : ∃ (x : Ln) (m : Value), cs = [.string (mk x.proc), m, .int .i64 x.date, .int .i64 x.units, .int .i64 x.billed, .int .i64 x.prior] ∧ TxAt All W m x.mods ∧ (Fits y.1 58 → LnOk x) := by
  obtain ⟨xs, n', _, rfl, hlen, hxl, hf⟩ := DataW.trod_struct Tryd.underlying58 h
  rw [cL] at hlen
  match xs, hxl, cs, hlen with
  | [y0, y1, y2, y3, y4, y5], _, [v0, v1, v2, v3, v4, v5], _ =>
    have h0 : DataW.trod enc Tryd.prog W base spare held n' 9 ((([v0, v1, v2, v3, v4, v5] : List Value).drop 0).take (Tryd.prog.cellsOf 9)) = some y0 := hf 0 _ rfl
    have h1 : DataW.trod enc Tryd.prog W base spare held n' 56 ((([v0, v1, v2, v3, v4, v5] : List Value).drop 1).take (Tryd.prog.cellsOf 56)) = some y1 := hf 1 _ rfl
    have h2 : DataW.trod enc Tryd.prog W base spare held n' 3 ((([v0, v1, v2, v3, v4, v5] : List Value).drop 2).take (Tryd.prog.cellsOf 3)) = some y2 := hf 2 _ rfl
    have h3 : DataW.trod enc Tryd.prog W base spare held n' 3 ((([v0, v1, v2, v3, v4, v5] : List Value).drop 3).take (Tryd.prog.cellsOf 3)) = some y3 := hf 3 _ rfl
    have h4 : DataW.trod enc Tryd.prog W base spare held n' 2 ((([v0, v1, v2, v3, v4, v5] : List Value).drop 4).take (Tryd.prog.cellsOf 2)) = some y4 := hf 4 _ rfl
    have h5 : DataW.trod enc Tryd.prog W base spare held n' 2 ((([v0, v1, v2, v3, v4, v5] : List Value).drop 5).take (Tryd.prog.cellsOf 2)) = some y5 := hf 5 _ rfl
    rw [c9] at h0
    rw [cTs] at h1
    rw [cI] at h2 h3
    rw [c64] at h4 h5
    obtain ⟨a0, rfl, k0⟩ := each_tx (y := y0) (by simpa using h0)
    obtain ⟨a1, t1, k1⟩ := open_txs (y := y1) (by simpa using h1)
    obtain ⟨a2, rfl, i2⟩ := each_int (y := y2) (by simpa using h2)
    obtain ⟨a3, rfl, i3⟩ := each_int (y := y3) (by simpa using h3)
    obtain ⟨a4, rfl, i4⟩ := each_i64 (y := y4) (by simpa using h4)
    obtain ⟨a5, rfl, i5⟩ := each_i64 (y := y5) (by simpa using h5)
    refine ⟨⟨a0, a1, a2, a3, a4, a5⟩, v1, rfl, t1, fun hfit => ?_⟩
    have q0 := fits_part Tryd.underlying58 hfit 0 _ rfl rfl rfl
    have q1 := fits_part Tryd.underlying58 hfit 1 _ rfl rfl rfl
    exact ⟨i2, i3, i4, i5, k0 q0, (k1 q1).1, (k1 q1).2⟩
theorem open_lines {fuel : Nat} {v : Value} {y : DataW H × List MemPlace} (h : DataW.trod enc Tryd.prog W base spare held fuel 23 [v] = some y) : ∃ xs : List Ln, LnsAt All W v xs ∧ (Fits y.1 23 → xs.length ≤ 281474976710656 ∧ ∀ x ∈ xs, LnOk x) := by
  rcases open_slice Tryd.underlying23 h with ⟨h0, _⟩ | ⟨a, len, cap, m, n, D, Pl, hv, hb, hl, hm, hmm, rfl, hx⟩
  · obtain rfl : v = .slice none 0 0 := by simpa using h0
    exact ⟨[], ⟨none, 0, rfl, by simp, by simp [maxLen], Or.inl rfl⟩, fun _ => by simp⟩
  · obtain rfl : v = .slice (some a) len cap := by simpa using hv
    have hlm : len ≤ m := by rw [hmm]; split <;> omega
    rw [cL] at hx
    obtain ⟨Y, hY⟩ := @choose_lt Ln ⟨ln0⟩ len (fun i y => ∃ mv, (∀ r, r < 6 → W.cell? ((a.add (i * 6)).add r) = [.string (mk y.proc), mv, .int .i64 y.date, .int .i64 y.units, .int .i64 y.billed, .int .i64 y.prior][r]?) ∧ TxAt All W mv y.mods ∧ (Fits (D i) 58 → LnOk y)) (fun i hi => by
      obtain ⟨cs', g1, g2⟩ := hx i (by omega)
      obtain ⟨x, mv, rfl, q1, q2⟩ := each_line g2
      obtain ⟨_, _, hcell⟩ := World.cells?_some g1
      exact ⟨x, mv, fun r hr => hcell r hr, q1, q2⟩)
    have hxl : ((List.range len).map Y).length = len := by simp
    refine ⟨(List.range len).map Y, ⟨some a, cap, by rw [hxl], by rw [hxl]; exact hl, hm, ?_⟩, fun hf => ⟨?_, fun x hx1 => ?_⟩⟩
    · rcases Nat.eq_zero_or_pos len with h0 | h0
      · subst h0; exact Or.inl rfl
      · obtain ⟨b, o, sp⟩ := a
        obtain ⟨mv0, hc0, -, -⟩ := hY 0 h0
        have hc00 := hc0 0 (by omega)
        have hsp : sp = none := by
          have := World.cell?_spot hc00
          simpa [Addr.add] using this
        subst hsp
        rw [addOff, addOff] at hc00
        refine Or.inr ⟨b, o, rfl, trivial, World.block_lt_of_cell? W _ hc00, fun j x hj => ?_⟩
        have hjl : j < len := by have := (List.getElem?_eq_some_iff.1 hj).1; simpa using this
        rw [List.getElem?_map, List.getElem?_range hjl] at hj
        obtain rfl := Option.some.inj hj
        obtain ⟨mv, hc, ht, -⟩ := hY j hjl
        refine ⟨mv, ?_, ht⟩
        have e : ∀ r, r < 6 → W.cell? ⟨b, o + j * 6 + r, none⟩ = [.string (mk (Y j).proc), mv, .int .i64 (Y j).date, .int .i64 (Y j).units, .int .i64 (Y j).billed, .int .i64 (Y j).prior][r]? := fun r hr => by
          have := hc r hr
          rwa [addOff, addOff] at this
        exact ⟨e 0 (by omega), e 1 (by omega), e 2 (by omega), e 3 (by omega), e 4 (by omega), e 5 (by omega)⟩
    · have := fits_len Tryd.underlying23 hf (by decide +kernel)
      simpa using this
    · obtain ⟨i, hi, rfl⟩ := List.mem_map.1 hx1
      have hil := List.mem_range.1 hi
      obtain ⟨_, _, _, q⟩ := hY i hil
      exact q (fits_elem Tryd.underlying23 hf (List.mem_map.2 ⟨i, hi, rfl⟩))
theorem each_claim {n : Nat} {cs : List Value} {y : DataW H × List MemPlace} (h : DataW.trod enc Tryd.prog W base spare held n 25 cs = some y) : ∃ (x : Cl) (m : Value), cs = [.string (mk x.id), .string (mk x.mem), .string (mk x.fam), .int .i64 x.net, .int .i64 x.does, .string (mk x.ref), m] ∧ LnsAt All W m x.lines ∧ (Fits y.1 25 → ClOk x) := by
  obtain ⟨xs, n', _, rfl, hlen, hxl, hf⟩ := DataW.trod_struct Tryd.underlying25 h
  rw [cC] at hlen
  match xs, hxl, cs, hlen with
  | [y0, y1, y2, y3, y4, y5, y6], _, [v0, v1, v2, v3, v4, v5, v6], _ =>
    have h0 : DataW.trod enc Tryd.prog W base spare held n' 9 ((([v0, v1, v2, v3, v4, v5, v6] : List Value).drop 0).take (Tryd.prog.cellsOf 9)) = some y0 := hf 0 _ rfl
    have h1 : DataW.trod enc Tryd.prog W base spare held n' 9 ((([v0, v1, v2, v3, v4, v5, v6] : List Value).drop 1).take (Tryd.prog.cellsOf 9)) = some y1 := hf 1 _ rfl
    have h2 : DataW.trod enc Tryd.prog W base spare held n' 9 ((([v0, v1, v2, v3, v4, v5, v6] : List Value).drop 2).take (Tryd.prog.cellsOf 9)) = some y2 := hf 2 _ rfl
    have h3 : DataW.trod enc Tryd.prog W base spare held n' 3 ((([v0, v1, v2, v3, v4, v5, v6] : List Value).drop 3).take (Tryd.prog.cellsOf 3)) = some y3 := hf 3 _ rfl
    have h4 : DataW.trod enc Tryd.prog W base spare held n' 3 ((([v0, v1, v2, v3, v4, v5, v6] : List Value).drop 4).take (Tryd.prog.cellsOf 3)) = some y4 := hf 4 _ rfl
    have h5 : DataW.trod enc Tryd.prog W base spare held n' 9 ((([v0, v1, v2, v3, v4, v5, v6] : List Value).drop 5).take (Tryd.prog.cellsOf 9)) = some y5 := hf 5 _ rfl
    have h6 : DataW.trod enc Tryd.prog W base spare held n' 23 ((([v0, v1, v2, v3, v4, v5, v6] : List Value).drop 6).take (Tryd.prog.cellsOf 23)) = some y6 := hf 6 _ rfl
    rw [c9] at h0 h1 h2 h5
    rw [cI] at h3 h4
    rw [cLs] at h6
    obtain ⟨a0, rfl, k0⟩ := each_tx (y := y0) (by simpa using h0)
    obtain ⟨a1, rfl, k1⟩ := each_tx (y := y1) (by simpa using h1)
    obtain ⟨a2, rfl, k2⟩ := each_tx (y := y2) (by simpa using h2)
    obtain ⟨a3, rfl, i3⟩ := each_int (y := y3) (by simpa using h3)
    obtain ⟨a4, rfl, i4⟩ := each_int (y := y4) (by simpa using h4)
    obtain ⟨a5, rfl, k5⟩ := each_tx (y := y5) (by simpa using h5)
    obtain ⟨a6, t6, k6⟩ := open_lines (y := y6) (by simpa using h6)
    refine ⟨⟨a0, a1, a2, a3, a4, a5, a6⟩, v6, rfl, t6, fun hfit => ?_⟩
    have q0 := fits_part Tryd.underlying25 hfit 0 _ rfl rfl rfl
    have q1 := fits_part Tryd.underlying25 hfit 1 _ rfl rfl rfl
    have q2 := fits_part Tryd.underlying25 hfit 2 _ rfl rfl rfl
    have q5 := fits_part Tryd.underlying25 hfit 5 _ rfl rfl rfl
    have q6 := fits_part Tryd.underlying25 hfit 6 _ rfl rfl rfl
    exact ⟨i3, i4, k0 q0, k1 q1, k2 q2, k5 q5, (k6 q6).1, (k6 q6).2⟩
theorem open_claims {fuel : Nat} {v : Value} {y : DataW H × List MemPlace} (h : DataW.trod enc Tryd.prog W base spare held fuel 37 [v] = some y) : ∃ xs : List Cl, ClsAt All W v xs ∧ (Fits y.1 37 → ∀ x ∈ xs, ClOk x) := by
  rcases open_slice Tryd.underlying37 h with ⟨h0, _⟩ | ⟨a, len, cap, m, n, D, Pl, hv, hb, hl, hm, hmm, rfl, hx⟩
  · obtain rfl : v = .slice none 0 0 := by simpa using h0
    exact ⟨[], ⟨none, 0, rfl, by simp, by simp [maxLen], Or.inl rfl⟩, fun _ => by simp⟩
  · obtain rfl : v = .slice (some a) len cap := by simpa using hv
    have hlm : len ≤ m := by rw [hmm]; split <;> omega
    rw [cC] at hx
    obtain ⟨Y, hY⟩ := @choose_lt Cl ⟨cl0⟩ len (fun i y => ∃ mv, (∀ r, r < 7 → W.cell? ((a.add (i * 7)).add r) = [.string (mk y.id), .string (mk y.mem), .string (mk y.fam), .int .i64 y.net, .int .i64 y.does, .string (mk y.ref), mv][r]?) ∧ LnsAt All W mv y.lines ∧ (Fits (D i) 25 → ClOk y)) (fun i hi => by
      obtain ⟨cs', g1, g2⟩ := hx i (by omega)
      obtain ⟨x, mv, rfl, q1, q2⟩ := each_claim g2
      obtain ⟨_, _, hcell⟩ := World.cells?_some g1
      exact ⟨x, mv, fun r hr => hcell r hr, q1, q2⟩)
    have hxl : ((List.range len).map Y).length = len := by simp
    refine ⟨(List.range len).map Y, ⟨some a, cap, by rw [hxl], by rw [hxl]; exact hl, hm, ?_⟩, fun hf x hx1 => ?_⟩
    · rcases Nat.eq_zero_or_pos len with h0 | h0
      · subst h0; exact Or.inl rfl
      · obtain ⟨b, o, sp⟩ := a
        obtain ⟨mv0, hc0, -, -⟩ := hY 0 h0
        have hc00 := hc0 0 (by omega)
        have hsp : sp = none := by
          have := World.cell?_spot hc00
          simpa [Addr.add] using this
        subst hsp
        rw [addOff, addOff] at hc00
        refine Or.inr ⟨b, o, rfl, trivial, World.block_lt_of_cell? W _ hc00, fun j x hj => ?_⟩
        have hjl : j < len := by have := (List.getElem?_eq_some_iff.1 hj).1; simpa using this
        rw [List.getElem?_map, List.getElem?_range hjl] at hj
        obtain rfl := Option.some.inj hj
        obtain ⟨mv, hc, ht, -⟩ := hY j hjl
        refine ⟨mv, ?_, ht⟩
        have e : ∀ r, r < 7 → W.cell? ⟨b, o + j * 7 + r, none⟩ = [.string (mk (Y j).id), .string (mk (Y j).mem), .string (mk (Y j).fam), .int .i64 (Y j).net, .int .i64 (Y j).does, .string (mk (Y j).ref), mv][r]? := fun r hr => by
          have := hc r hr
          rwa [addOff, addOff] at this
        exact ⟨e 0 (by omega), e 1 (by omega), e 2 (by omega), e 3 (by omega), e 4 (by omega), e 5 (by omega), e 6 (by omega)⟩
    · obtain ⟨i, hi, rfl⟩ := List.mem_map.1 hx1
      have hil := List.mem_range.1 hi
      obtain ⟨_, _, _, q⟩ := hY i hil
      exact q (fits_elem Tryd.underlying37 hf (List.mem_map.2 ⟨i, hi, rfl⟩))
theorem agg_of {r : Reach} {b0 : Nat} {t : TypeId} {fs : Array Field} {v : Value} {d : DataW H} {p : List MemPlace} (hs : Tryd.prog.underlying t = some (.struct fs)) (hv : Value.okWide Tryd.prog W r b0 t v) (h : DataW.Trod enc Tryd.prog W base spare held t v d p) : ∃ (cs : List Value) (fuel : Nat), v = .agg cs.toArray ∧ DataW.trod enc Tryd.prog W base spare held fuel t cs = some (d, p) := by
  obtain ⟨cs, rfl, _⟩ := okWide_struct hs hv
  obtain ⟨fuel, hf⟩ := h
  exact ⟨cs.toList, fuel, by simp, by simpa [Value.cells] using hf⟩
theorem open_line {r : Reach} {b0 : Nat} {v : Value} {d : DataW H} {p : List MemPlace} (hv : Value.okWide Tryd.prog W r b0 58 v) (h : DataW.Trod enc Tryd.prog W base spare held 58 v d p) (hw : Fits d 58) : ∃ (x : Ln) (m : Value), v = lnv x m ∧ TxAt All W m x.mods ∧ LnOk x := by
  obtain ⟨cs, fuel, rfl, hf⟩ := agg_of Tryd.underlying58 hv h
  obtain ⟨x, m, rfl, h1, h2⟩ := each_line hf
  exact ⟨x, m, rfl, h1, h2 hw⟩
theorem open_claim {r : Reach} {b0 : Nat} {v : Value} {d : DataW H} {p : List MemPlace} (hv : Value.okWide Tryd.prog W r b0 25 v) (h : DataW.Trod enc Tryd.prog W base spare held 25 v d p) (hw : Fits d 25) : ∃ (x : Cl) (m : Value), v = clv x m ∧ LnsAt All W m x.lines ∧ ClOk x := by
  obtain ⟨cs, fuel, rfl, hf⟩ := agg_of Tryd.underlying25 hv h
  obtain ⟨x, m, rfl, h1, h2⟩ := each_claim hf
  exact ⟨x, m, rfl, h1, h2 hw⟩
end Go.Proofs.YtjgceppbhmmbjaaDoor.Cm
end
