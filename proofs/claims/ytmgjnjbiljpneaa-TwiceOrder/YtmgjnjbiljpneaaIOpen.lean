/-
  Services and rows of services that are handed in, opened. (Plain rows; out of edits/XOpen by program.)
-/
import Derived.Test.YtmgjnjbiljpneaaRows
import Derived.Test.YtmgjnjbiljpneaaLMem
import Derived.ProofKit
import Derived.OpenShut
import Derived.Carry
import Derived.Deep.Strs
import Derived.Lib.SmallJoins
set_option maxRecDepth 100000
set_option linter.unusedVariables false
namespace Go.Proofs.Ytmgjnjbiljpneaa.Io
open Go.ChangeShapes Go.WideShapes Go.ChangeAt Go.RowKit Go.Deep
open Cm

theorem cI : Try.prog.cellsOf 3 = 1 := by kernel_rfl
theorem addOff (b o k : Nat) : (⟨b, o, none⟩ : Addr).add k = ⟨b, o + k, none⟩ := by unfold Addr.add; split <;> simp_all
variable {H : Type} {enc : TypeId × Value → H} {W : World} {base : Nat} {spare : Nat → Bool} {held : Bool}
def Fits (d : DataW H) (t : TypeId) : Prop := ∀ z ∈ d.weights Try.prog t, z ≤ reachBytes
theorem w_mem {P : Program} {e : TypeId} : ∀ {ds : List (DataW H)} {d : DataW H}, d ∈ ds → ∀ {x : Nat}, x ∈ d.weights P e → x ∈ DataW.weightsAll P e ds
  | [], d, h, _, _ => by cases h
  | c :: r, d, h, x, hx => by
    unfold DataW.weightsAll
    rcases List.mem_cons.1 h with rfl | h
    · exact List.mem_append_left _ hx
    · exact List.mem_append_right _ (w_mem h hx)
theorem fits_elem {t e : TypeId} (ht : Try.prog.underlying t = some (.slice e)) {elems rest : List (DataW H)} (h : Fits (.slice elems rest) t) {d : DataW H} (hd : d ∈ elems) : Fits d e := fun z hz => h z (by
  unfold DataW.weights
  rw [ht]
  exact List.mem_cons_of_mem _ (List.mem_append_left _ (w_mem hd hz)))
theorem fits_len {t e : TypeId} (ht : Try.prog.underlying t = some (.slice e)) {elems rest : List (DataW H)} (h : Fits (.slice elems rest) t) (he : 1 ≤ Try.prog.bytesOf e) : elems.length ≤ 281474976710656 := by
  have h1 := h ((elems.length + rest.length) * Try.prog.bytesOf e) (by
    unfold DataW.weights
    rw [ht]
    exact List.mem_cons_self ..)
  have h2 : (elems.length + rest.length) * 1 ≤ (elems.length + rest.length) * Try.prog.bytesOf e := Nat.mul_le_mul_left _ he
  unfold reachBytes at h1
  omega
theorem fits_part {t : TypeId} {fs : Array Field} (ht : Try.prog.underlying t = some (.struct fs)) {parts : List (DataW H)} (h : Fits (.agg parts) t) (k : Nat) : ∀ (ts : List TypeId) (hts : fs.toList.map (·.type) = ts) {u : TypeId} {d : DataW H}, ts[k]? = some u → parts[k]? = some d → Fits d u := by
  intro ts hts u d hu hd z hz
  refine h z ?_
  unfold DataW.weights
  rw [ht]
  simp only
  rw [hts]
  clear hts h ht
  induction ts generalizing k parts with
  | nil => simp at hu
  | cons t0 r ih =>
    cases parts with
    | nil => simp at hd
    | cons p0 pr =>
      unfold DataW.weightsEach
      cases k with
      | zero =>
        simp at hu hd
        subst hu hd
        exact List.mem_append_left _ hz
      | succ k => exact List.mem_append_right _ (ih k (by simpa using hu) (by simpa using hd))
theorem c9 : Try.prog.cellsOf 9 = 1 := by kernel_rfl
theorem c64 : Try.prog.cellsOf 2 = 1 := by kernel_rfl
theorem cTs : Try.prog.cellsOf 22 = 1 := by kernel_rfl
theorem cL : Try.prog.cellsOf 24 = 6 := by kernel_rfl
theorem each_tx {n : Nat} {v : Value} {y : DataW H × List MemPlace} (h : DataW.trod enc Try.prog W base spare held n 9 [v] = some y) : ∃ a : Tx, v = .string (mk a) ∧ (Fits y.1 9 → a.length ≤ 281474976710656) := by
  obtain ⟨s, h1, h2, _⟩ := DataW.trod_string Try.underlying9 h
  refine ⟨s.data.toList, ?_, fun hf => ?_⟩
  · rw [mk_of]
    simpa using h1
  · rw [h2] at hf
    have := hf s.data.toList.length (by unfold DataW.weights; simp)
    unfold reachBytes at this
    omega
theorem each_int {n : Nat} {v : Value} {y : DataW H × List MemPlace} (h : DataW.trod enc Try.prog W base spare held n 3 [v] = some y) : ∃ a : Int, v = .int .i64 a ∧ I64 a := by
  obtain ⟨a, h1, _, h3⟩ := DataW.trod_int Try.underlying3 h
  refine ⟨a, by simpa using h1, ?_⟩
  simpa [I64, Lit.wf, IntKind.min, IntKind.max, IntKind.signed, IntKind.bits] using h3
theorem each_i64 {n : Nat} {v : Value} {y : DataW H × List MemPlace} (h : DataW.trod enc Try.prog W base spare held n 2 [v] = some y) : ∃ a : Int, v = .int .i64 a ∧ I64 a := by
  obtain ⟨a, h1, _, h3⟩ := DataW.trod_int Try.underlying2 h
  refine ⟨a, by simpa using h1, ?_⟩
  simpa [I64, Lit.wf, IntKind.min, IntKind.max, IntKind.signed, IntKind.bits] using h3
theorem open_txs {fuel : Nat} {v : Value} {y : DataW H × List MemPlace} (h : DataW.trod enc Try.prog W base spare held fuel 22 [v] = some y) : ∃ xs : List Tx, TxAt All W v xs ∧ (Fits y.1 22 → xs.length ≤ 281474976710656 ∧ ∀ x ∈ xs, x.length ≤ 281474976710656) := by
  rcases open_slice1 Try.underlying22 c9 h with ⟨h0, _⟩ | ⟨a, len, cap, m, n, V, D, Pl, hv, hb, hl, hm, hmm, rfl, hx⟩
  · obtain rfl : v = .slice none 0 0 := by simpa using h0
    exact ⟨[], TxAt.nil _ _, fun _ => by simp⟩
  · obtain rfl : v = .slice (some a) len cap := by simpa using hv
    have hlm : len ≤ m := by rw [hmm]; split <;> omega
    obtain ⟨Y, hY⟩ := choose_lt (α := Tx) (p := fun i y => V i = .string (mk y) ∧ (Fits (D i) 9 → y.length ≤ 281474976710656)) (n := len) (fun i hi => each_tx (hx i (by omega)).2)
    have hxl : ((List.range len).map Y).length = len := by simp
    refine ⟨(List.range len).map Y, ⟨some a, cap, by rw [hxl], by rw [hxl]; exact hl, hm, ?_⟩, fun hf => ⟨?_, fun x hx1 => ?_⟩⟩
    · rcases Nat.eq_zero_or_pos len with h0 | h0
      · subst h0; exact Or.inl rfl
      · obtain ⟨b, o, sp⟩ := a
        have hsp : sp = none := by simpa [Addr.add] using World.cell?_spot (hx 0 (by omega)).1
        subst hsp
        refine Or.inr ⟨b, o, rfl, trivial, World.block_lt_of_cell? W ⟨b, o + 0, none⟩ (by have := (hx 0 (by omega)).1; rwa [addOff] at this), fun j x hj => ?_⟩
        have hjl : j < len := by have := (List.getElem?_eq_some_iff.1 hj).1; simpa using this
        rw [List.getElem?_map, List.getElem?_range hjl] at hj
        obtain rfl := Option.some.inj hj
        exact ⟨V j, by have := (hx j (by omega)).1; rwa [addOff] at this, (hY j hjl).1⟩
    · have := fits_len Try.underlying22 hf (by decide +kernel)
      simpa using this
    · obtain ⟨i, hi, rfl⟩ := List.mem_map.1 hx1
      have hil := List.mem_range.1 hi
      exact (hY i hil).2 (fits_elem Try.underlying22 hf (List.mem_map.2 ⟨i, hi, rfl⟩))
theorem each_line {n : Nat} {cs : List Value} {y : DataW H × List MemPlace} (h : DataW.trod enc Try.prog W base spare held n 24 cs = some y) : ∃ (x : Ln) (m : Value), cs = [.string (mk x.proc), m, .int .i64 x.date, .int .i64 x.units, .int .i64 x.billed, .int .i64 x.prior] ∧ TxAt All W m x.mods ∧ (Fits y.1 24 → LnOk x) := by
  obtain ⟨xs, n', _, rfl, hlen, hxl, hf⟩ := DataW.trod_struct Try.underlying24 h
  rw [cL] at hlen
  match xs, hxl, cs, hlen with
  | [y0, y1, y2, y3, y4, y5], _, [v0, v1, v2, v3, v4, v5], _ =>
    have h0 : DataW.trod enc Try.prog W base spare held n' 9 ((([v0, v1, v2, v3, v4, v5] : List Value).drop 0).take (Try.prog.cellsOf 9)) = some y0 := hf 0 _ rfl
    have h1 : DataW.trod enc Try.prog W base spare held n' 22 ((([v0, v1, v2, v3, v4, v5] : List Value).drop 1).take (Try.prog.cellsOf 22)) = some y1 := hf 1 _ rfl
    have h2 : DataW.trod enc Try.prog W base spare held n' 3 ((([v0, v1, v2, v3, v4, v5] : List Value).drop 2).take (Try.prog.cellsOf 3)) = some y2 := hf 2 _ rfl
    have h3 : DataW.trod enc Try.prog W base spare held n' 3 ((([v0, v1, v2, v3, v4, v5] : List Value).drop 3).take (Try.prog.cellsOf 3)) = some y3 := hf 3 _ rfl
    have h4 : DataW.trod enc Try.prog W base spare held n' 2 ((([v0, v1, v2, v3, v4, v5] : List Value).drop 4).take (Try.prog.cellsOf 2)) = some y4 := hf 4 _ rfl
    have h5 : DataW.trod enc Try.prog W base spare held n' 2 ((([v0, v1, v2, v3, v4, v5] : List Value).drop 5).take (Try.prog.cellsOf 2)) = some y5 := hf 5 _ rfl
    rw [c9] at h0
    rw [cTs] at h1
    rw [cI] at h2 h3
    rw [c64] at h4 h5
    obtain ⟨a0, rfl, k0⟩ := each_tx (y := y0) (by simpa using h0)
    obtain ⟨a1, t1, k1⟩ := open_txs (y := y1) (by simpa using h1)
    obtain ⟨a2, rfl, i2⟩ := each_int (y := y2) (by simpa using h2)
    obtain ⟨a3, rfl, i3⟩ := each_int (y := y3) (by simpa using h3)
    obtain ⟨a4, rfl, i4⟩ := each_i64 (y := y4) (by simpa using h4)
    obtain ⟨a5, rfl, i5⟩ := each_i64 (y := y5) (by simpa using h5)
    refine ⟨⟨a0, a1, a2, a3, a4, a5⟩, v1, rfl, t1, fun hfit => ?_⟩
    have q0 := fits_part Try.underlying24 hfit 0 _ rfl rfl rfl
    have q1 := fits_part Try.underlying24 hfit 1 _ rfl rfl rfl
    exact ⟨i2, i3, i4, i5, k0 q0, (k1 q1).1, (k1 q1).2⟩
theorem agg_of {r : Reach} {b0 : Nat} {t : TypeId} {fs : Array Field} {v : Value} {d : DataW H} {p : List MemPlace} (hs : Try.prog.underlying t = some (.struct fs)) (hv : Value.okWide Try.prog W r b0 t v) (h : DataW.Trod enc Try.prog W base spare held t v d p) : ∃ (cs : List Value) (fuel : Nat), v = .agg cs.toArray ∧ DataW.trod enc Try.prog W base spare held fuel t cs = some (d, p) := by
  obtain ⟨cs, rfl, _⟩ := okWide_struct hs hv
  obtain ⟨fuel, hf⟩ := h
  exact ⟨cs.toList, fuel, by simp, by simpa [Value.cells] using hf⟩
theorem cB : Try.prog.cellsOf 4 = 1 := by kernel_rfl
theorem open_lines {fuel : Nat} {v : Value} {y : DataW H × List MemPlace} (h : DataW.trod enc Try.prog W base spare held fuel 26 [v] = some y) : ∃ xs : List Ln, LnsAt All W v xs ∧ (Fits y.1 26 → xs.length ≤ 281474976710656 ∧ ∀ x ∈ xs, LnOk x) := by
  rcases open_slice Try.underlying26 h with ⟨h0, _⟩ | ⟨a, len, cap, m, n, D, Pl, hv, hb, hl, hm, hmm, rfl, hx⟩
  · obtain rfl : v = .slice none 0 0 := by simpa using h0
    exact ⟨[], ⟨none, 0, rfl, by simp, by simp [maxLen], Or.inl rfl⟩, fun _ => by simp⟩
  · obtain rfl : v = .slice (some a) len cap := by simpa using hv
    have hlm : len ≤ m := by rw [hmm]; split <;> omega
    rw [cL] at hx
    obtain ⟨Y, hY⟩ := @choose_lt Ln ⟨⟨[], [], 0, 0, 0, 0⟩⟩ len (fun i y => ∃ mv, (∀ r, r < 6 → W.cell? ((a.add (i * 6)).add r) = [.string (mk y.proc), mv, .int .i64 y.date, .int .i64 y.units, .int .i64 y.billed, .int .i64 y.prior][r]?) ∧ TxAt All W mv y.mods ∧ (Fits (D i) 24 → LnOk y)) (fun i hi => by
      obtain ⟨cs', g1, g2⟩ := hx i (by omega)
      obtain ⟨x, mv, rfl, q1, q2⟩ := each_line g2
      obtain ⟨_, _, hcell⟩ := World.cells?_some g1
      exact ⟨x, mv, fun r hr => hcell r hr, q1, q2⟩)
    have hxl : ((List.range len).map Y).length = len := by simp
    refine ⟨(List.range len).map Y, ⟨some a, cap, by rw [hxl], by rw [hxl]; exact hl, hm, ?_⟩, fun hf => ⟨?_, fun x hx1 => ?_⟩⟩
    · rcases Nat.eq_zero_or_pos len with h0 | h0
      · subst h0; exact Or.inl rfl
      · obtain ⟨b, o, sp⟩ := a
        obtain ⟨mv0, hc0, -, -⟩ := hY 0 h0
        have hc00 := hc0 0 (by omega)
        have hsp : sp = none := by
          have := World.cell?_spot hc00
          simpa [Addr.add] using this
        subst hsp
        rw [addOff, addOff] at hc00
        refine Or.inr ⟨b, o, rfl, trivial, World.block_lt_of_cell? W _ hc00, fun j x hj => ?_⟩
        have hjl : j < len := by have := (List.getElem?_eq_some_iff.1 hj).1; simpa using this
        rw [List.getElem?_map, List.getElem?_range hjl] at hj
        obtain rfl := Option.some.inj hj
        obtain ⟨mv, hc, ht, -⟩ := hY j hjl
        refine ⟨mv, ?_, ht⟩
        have e : ∀ r, r < 6 → W.cell? ⟨b, o + j * 6 + r, none⟩ = [.string (mk (Y j).proc), mv, .int .i64 (Y j).date, .int .i64 (Y j).units, .int .i64 (Y j).billed, .int .i64 (Y j).prior][r]? := fun r hr => by
          have := hc r hr
          rwa [addOff, addOff] at this
        exact ⟨e 0 (by omega), e 1 (by omega), e 2 (by omega), e 3 (by omega), e 4 (by omega), e 5 (by omega)⟩
    · have := fits_len Try.underlying26 hf (by decide +kernel)
      simpa using this
    · obtain ⟨i, hi, rfl⟩ := List.mem_map.1 hx1
      have hil := List.mem_range.1 hi
      obtain ⟨_, _, _, q⟩ := hY i hil
      exact q (fits_elem Try.underlying26 hf (List.mem_map.2 ⟨i, hi, rfl⟩))
theorem open_lns {v : Value} {d : DataW H} {p : List MemPlace} (hs : ∃ a n c, v = .slice a n c) (h : DataW.Trod enc Try.prog W base spare held 26 v d p) (hw : Fits d 26) : ∃ l : List Ln, LnsAt All W v l ∧ l.length ≤ 281474976710656 ∧ ∀ f ∈ l, LnOk f := by
  obtain ⟨fuel, hf⟩ := h
  obtain ⟨a, n, c, rfl⟩ := hs
  obtain ⟨l, h1, h2⟩ := open_lines (v := .slice a n c) (by simpa [Value.cells] using hf)
  exact ⟨l, h1, h2 hw⟩
theorem open_line {r : Reach} {b0 : Nat} {v : Value} {d : DataW H} {p : List MemPlace} (hv : Value.okWide Try.prog W r b0 24 v) (h : DataW.Trod enc Try.prog W base spare held 24 v d p) (hw : Fits d 24) : ∃ (x : Ln) (m : Value), v = lnv x m ∧ TxAt All W m x.mods ∧ LnOk x := by
  obtain ⟨cs, fuel, rfl, hf⟩ := agg_of Try.underlying24 hv h
  obtain ⟨x, m, rfl, h1, h2⟩ := each_line hf
  exact ⟨x, m, rfl, h1, h2 hw⟩
end Go.Proofs.Ytmgjnjbiljpneaa.Io
