/-
  Texts put together (merge.py): VOpen, MOpen.
-/
import Derived.ProofKit
import Derived.OpenShut
import Derived.Carry
import Derived.Deep.Strs
import Derived.Lib.SmallJoins
import Derived.Test.YtpfpjbeofogbgaaRows
import Derived.Test.YtpfpjbeofogbgaaMm6
import Derived.Test.YtpfpjbeofogbgaaMm2
import Derived.Test.YtpfpjbeofogbgaaMm4
set_option linter.unusedSimpArgs false
set_option linter.unusedVariables false
section
set_option maxRecDepth 100000
namespace Go.Proofs.Ytpfpjbeofogbgaa.So
open Go.ChangeShapes Go.WideShapes Go.ChangeAt Go.RowKit Go.Deep
open Cm (Ln Cl ln0 cl0 LnsAt LnOk ClOk lnv clv I64)
open Sh (Ot)
open Bk (OtsAt)
open Sv (Ca Sr Cp CasAt SvsAt)
theorem addOff (b o k : Nat) : (⟨b, o, none⟩ : Addr).add k = ⟨b, o + k, none⟩ := by unfold Addr.add; split <;> simp_all
variable {H : Type} {enc : TypeId × Value → H} {W : World} {base : Nat} {spare : Nat → Bool} {held : Bool}
def Fits (d : DataW H) (t : TypeId) : Prop := ∀ z ∈ d.weights Try.prog t, z ≤ reachBytes
theorem w_mem {P : Program} {e : TypeId} : ∀ {ds : List (DataW H)} {d : DataW H}, d ∈ ds → ∀ {x : Nat}, x ∈ d.weights P e → x ∈ DataW.weightsAll P e ds
 | [], d, h, _, _ => by cases h
 | c :: r, d, h, x, hx => by
  unfold DataW.weightsAll
  rcases List.mem_cons.1 h with rfl | h
  ·exact List.mem_append_left _ hx
  ·exact List.mem_append_right _ (w_mem h hx)
theorem fits_elem {t e : TypeId} (ht : Try.prog.underlying t = some (.slice e)) {elems rest : List (DataW H)} (h : Fits (.slice elems rest) t) {d : DataW H} (hd : d ∈ elems) : Fits d e := fun z hz => h z (by
 unfold DataW.weights
 rw [ht]
 exact List.mem_cons_of_mem _ (List.mem_append_left _ (w_mem hd hz)))
theorem fits_len {t e : TypeId} (ht : Try.prog.underlying t = some (.slice e)) {elems rest : List (DataW H)} (h : Fits (.slice elems rest) t) (he : 1 ≤ Try.prog.bytesOf e) : elems.length ≤ 281474976710656 := by
 have h1 := h ((elems.length + rest.length) * Try.prog.bytesOf e) (by
  unfold DataW.weights
  rw [ht]
  exact List.mem_cons_self ..)
 have h2 : (elems.length + rest.length) * 1 ≤ (elems.length + rest.length) * Try.prog.bytesOf e := Nat.mul_le_mul_left _ he
 unfold reachBytes at h1
 omega
theorem fits_part {t : TypeId} {fs : Array Field} (ht : Try.prog.underlying t = some (.struct fs)) {parts : List (DataW H)} (h : Fits (.agg parts) t) (k : Nat) : ∀ (ts : List TypeId) (hts : fs.toList.map (·.type) = ts) {u : TypeId} {d : DataW H}, ts[k]? = some u → parts[k]? = some d → Fits d u := by
 intro ts hts u d hu hd z hz
 refine h z ?_
 unfold DataW.weights
 rw [ht]
 simp only
 rw [hts]
 clear hts h ht
 induction ts generalizing k parts with
 | nil => simp at hu
 | cons t0 r ih =>
  cases parts with
  | nil => simp at hd
  | cons p0 pr =>
   unfold DataW.weightsEach
   cases k with
   | zero =>
    simp at hu hd
    subst hu hd
    exact List.mem_append_left _ hz
   | succ k => exact List.mem_append_right _ (ih k (by simpa using hu) (by simpa using hd))
theorem c9 : Try.prog.cellsOf 9 = 1 := by kernel_rfl
theorem c64 : Try.prog.cellsOf 2 = 1 := by kernel_rfl
theorem cI : Try.prog.cellsOf 3 = 1 := by kernel_rfl
theorem cTs : Try.prog.cellsOf 54 = 1 := by kernel_rfl
theorem cLs : Try.prog.cellsOf 43 = 1 := by kernel_rfl
theorem cL : Try.prog.cellsOf 56 = 6 := by kernel_rfl
theorem cC : Try.prog.cellsOf 45 = 7 := by kernel_rfl
theorem each_tx {n : Nat} {v : Value} {y : DataW H × List MemPlace} (h : DataW.trod enc Try.prog W base spare held n 9 [v] = some y) : ∃ a : Tx, v = .string (mk a) ∧ (Fits y.1 9 → a.length ≤ 281474976710656) := by
 obtain ⟨s, h1, h2, _⟩ := DataW.trod_string Try.underlying9 h
 refine ⟨s.data.toList, ?_, fun hf => ?_⟩
 ·rw [mk_of]
  simpa using h1
 ·rw [h2] at hf
  have := hf s.data.toList.length (by unfold DataW.weights; simp)
  unfold reachBytes at this
  omega
theorem each_int {n : Nat} {v : Value} {y : DataW H × List MemPlace} (h : DataW.trod enc Try.prog W base spare held n 3 [v] = some y) : ∃ a : Int, v = .int .i64 a ∧ I64 a := by
 obtain ⟨a, h1, _, h3⟩ := DataW.trod_int Try.underlying3 h
 refine ⟨a, by simpa using h1, ?_⟩
 simpa [I64, Lit.wf, IntKind.min, IntKind.max, IntKind.signed, IntKind.bits] using h3
theorem each_i64 {n : Nat} {v : Value} {y : DataW H × List MemPlace} (h : DataW.trod enc Try.prog W base spare held n 2 [v] = some y) : ∃ a : Int, v = .int .i64 a ∧ I64 a := by
 obtain ⟨a, h1, _, h3⟩ := DataW.trod_int Try.underlying2 h
 refine ⟨a, by simpa using h1, ?_⟩
 simpa [I64, Lit.wf, IntKind.min, IntKind.max, IntKind.signed, IntKind.bits] using h3
theorem open_txs {fuel : Nat} {v : Value} {y : DataW H × List MemPlace} (h : DataW.trod enc Try.prog W base spare held fuel 54 [v] = some y) : ∃ xs : List Tx, TxAt All W v xs ∧ (Fits y.1 54 → xs.length ≤ 281474976710656 ∧ ∀ x ∈ xs, x.length ≤ 281474976710656) := by
 rcases open_slice1 Try.underlying54 c9 h with ⟨h0, _⟩ | ⟨a, len, cap, m, n, V, D, Pl, hv, hb, hl, hm, hmm, rfl, hx⟩
 ·obtain rfl : v = .slice none 0 0 := by simpa using h0
  exact ⟨[], TxAt.nil _ _, fun _ => by simp⟩
 ·obtain rfl : v = .slice (some a) len cap := by simpa using hv
  have hlm : len ≤ m := by rw [hmm]; split <;> omega
  obtain ⟨Y, hY⟩ := choose_lt (α := Tx) (p := fun i y => V i = .string (mk y) ∧ (Fits (D i) 9 → y.length ≤ 281474976710656)) (n := len) (fun i hi => each_tx (hx i (by omega)).2)
  have hxl : ((List.range len).map Y).length = len := by simp
  refine ⟨(List.range len).map Y, ⟨some a, cap, by rw [hxl], by rw [hxl]; exact hl, hm, ?_⟩, fun hf => ⟨?_, fun x hx1 => ?_⟩⟩
  ·rcases Nat.eq_zero_or_pos len with h0 | h0
   ·subst h0; exact Or.inl rfl
   ·obtain ⟨b, o, sp⟩ := a
    have hsp : sp = none := by simpa [Addr.add] using World.cell?_spot (hx 0 (by omega)).1
    subst hsp
    refine Or.inr ⟨b, o, rfl, trivial, World.block_lt_of_cell? W ⟨b, o + 0, none⟩ (by have := (hx 0 (by omega)).1; rwa [addOff] at this), fun j x hj => ?_⟩
    have hjl : j < len := by have := (List.getElem?_eq_some_iff.1 hj).1; simpa using this
    rw [List.getElem?_map, List.getElem?_range hjl] at hj
    obtain rfl := Option.some.inj hj
    exact ⟨V j, by have := (hx j (by omega)).1; rwa [addOff] at this, (hY j hjl).1⟩
  ·have := fits_len Try.underlying54 hf (by decide +kernel)
   simpa using this
  ·obtain ⟨i, hi, rfl⟩ := List.mem_map.1 hx1
   have hil := List.mem_range.1 hi
   exact (hY i hil).2 (fits_elem Try.underlying54 hf (List.mem_map.2 ⟨i, hi, rfl⟩))
theorem each_line {n : Nat} {cs : List Value} {y : DataW H × List MemPlace} (h : DataW.trod enc Try.prog W base spare held n 56 cs = some y) : ∃ (x : Ln) (m : Value), cs = [.string (mk x.proc), m, .int .i64 x.date, .int .i64 x.units, .int .i64 x.billed, .int .i64 x.prior] ∧ TxAt All W m x.mods ∧ (Fits y.1 56 → LnOk x) := by
 obtain ⟨xs, n', _, rfl, hlen, hxl, hf⟩ := DataW.trod_struct Try.underlying56 h
 rw [cL] at hlen
 match xs, hxl, cs, hlen with
 | [y0, y1, y2, y3, y4, y5], _, [v0, v1, v2, v3, v4, v5], _ =>
  have h0 : DataW.trod enc Try.prog W base spare held n' 9 ((([v0, v1, v2, v3, v4, v5] : List Value).drop 0).take (Try.prog.cellsOf 9)) = some y0 := hf 0 _ rfl
  have h1 : DataW.trod enc Try.prog W base spare held n' 54 ((([v0, v1, v2, v3, v4, v5] : List Value).drop 1).take (Try.prog.cellsOf 54)) = some y1 := hf 1 _ rfl
  have h2 : DataW.trod enc Try.prog W base spare held n' 3 ((([v0, v1, v2, v3, v4, v5] : List Value).drop 2).take (Try.prog.cellsOf 3)) = some y2 := hf 2 _ rfl
  have h3 : DataW.trod enc Try.prog W base spare held n' 3 ((([v0, v1, v2, v3, v4, v5] : List Value).drop 3).take (Try.prog.cellsOf 3)) = some y3 := hf 3 _ rfl
  have h4 : DataW.trod enc Try.prog W base spare held n' 2 ((([v0, v1, v2, v3, v4, v5] : List Value).drop 4).take (Try.prog.cellsOf 2)) = some y4 := hf 4 _ rfl
  have h5 : DataW.trod enc Try.prog W base spare held n' 2 ((([v0, v1, v2, v3, v4, v5] : List Value).drop 5).take (Try.prog.cellsOf 2)) = some y5 := hf 5 _ rfl
  rw [c9] at h0
  rw [cTs] at h1
  rw [cI] at h2 h3
  rw [c64] at h4 h5
  obtain ⟨a0, rfl, k0⟩ := each_tx (y := y0) (by simpa using h0)
  obtain ⟨a1, t1, k1⟩ := open_txs (y := y1) (by simpa using h1)
  obtain ⟨a2, rfl, i2⟩ := each_int (y := y2) (by simpa using h2)
  obtain ⟨a3, rfl, i3⟩ := each_int (y := y3) (by simpa using h3)
  obtain ⟨a4, rfl, i4⟩ := each_i64 (y := y4) (by simpa using h4)
  obtain ⟨a5, rfl, i5⟩ := each_i64 (y := y5) (by simpa using h5)
  refine ⟨⟨a0, a1, a2, a3, a4, a5⟩, v1, rfl, t1, fun hfit => ?_⟩
  have q0 := fits_part Try.underlying56 hfit 0 _ rfl rfl rfl
  have q1 := fits_part Try.underlying56 hfit 1 _ rfl rfl rfl
  exact ⟨i2, i3, i4, i5, k0 q0, (k1 q1).1, (k1 q1).2⟩
theorem open_lines {fuel : Nat} {v : Value} {y : DataW H × List MemPlace} (h : DataW.trod enc Try.prog W base spare held fuel 43 [v] = some y) : ∃ xs : List Ln, LnsAt All W v xs ∧ (Fits y.1 43 → xs.length ≤ 281474976710656 ∧ ∀ x ∈ xs, LnOk x) := by
 rcases open_slice Try.underlying43 h with ⟨h0, _⟩ | ⟨a, len, cap, m, n, D, Pl, hv, hb, hl, hm, hmm, rfl, hx⟩
 ·obtain rfl : v = .slice none 0 0 := by simpa using h0
  exact ⟨[], ⟨none, 0, rfl, by simp, by simp [maxLen], Or.inl rfl⟩, fun _ => by simp⟩
 ·obtain rfl : v = .slice (some a) len cap := by simpa using hv
  have hlm : len ≤ m := by rw [hmm]; split <;> omega
  rw [cL] at hx
  obtain ⟨Y, hY⟩ := @choose_lt Ln ⟨ln0⟩ len (fun i y => ∃ mv, (∀ r, r < 6 → W.cell? ((a.add (i * 6)).add r) = [.string (mk y.proc), mv, .int .i64 y.date, .int .i64 y.units, .int .i64 y.billed, .int .i64 y.prior][r]?) ∧ TxAt All W mv y.mods ∧ (Fits (D i) 56 → LnOk y)) (fun i hi => by
   obtain ⟨cs', g1, g2⟩ := hx i (by omega)
   obtain ⟨x, mv, rfl, q1, q2⟩ := each_line g2
   obtain ⟨_, _, hcell⟩ := World.cells?_some g1
   exact ⟨x, mv, fun r hr => hcell r hr, q1, q2⟩)
  have hxl : ((List.range len).map Y).length = len := by simp
  refine ⟨(List.range len).map Y, ⟨some a, cap, by rw [hxl], by rw [hxl]; exact hl, hm, ?_⟩, fun hf => ⟨?_, fun x hx1 => ?_⟩⟩
  ·rcases Nat.eq_zero_or_pos len with h0 | h0
   ·subst h0; exact Or.inl rfl
   ·obtain ⟨b, o, sp⟩ := a
    obtain ⟨mv0, hc0, -, -⟩ := hY 0 h0
    have hc00 := hc0 0 (by omega)
    have hsp : sp = none := by
     have := World.cell?_spot hc00
     simpa [Addr.add] using this
    subst hsp
    rw [addOff, addOff] at hc00
    refine Or.inr ⟨b, o, rfl, trivial, World.block_lt_of_cell? W _ hc00, fun j x hj => ?_⟩
    have hjl : j < len := by have := (List.getElem?_eq_some_iff.1 hj).1; simpa using this
    rw [List.getElem?_map, List.getElem?_range hjl] at hj
    obtain rfl := Option.some.inj hj
    obtain ⟨mv, hc, ht, -⟩ := hY j hjl
    refine ⟨mv, ?_, ht⟩
    have e : ∀ r, r < 6 → W.cell? ⟨b, o + j * 6 + r, none⟩ = [.string (mk (Y j).proc), mv, .int .i64 (Y j).date, .int .i64 (Y j).units, .int .i64 (Y j).billed, .int .i64 (Y j).prior][r]? := fun r hr => by
     have := hc r hr
     rwa [addOff, addOff] at this
    exact ⟨e 0 (by omega), e 1 (by omega), e 2 (by omega), e 3 (by omega), e 4 (by omega), e 5 (by omega)⟩
  ·have := fits_len Try.underlying43 hf (by decide +kernel)
   simpa using this
  ·obtain ⟨i, hi, rfl⟩ := List.mem_map.1 hx1
   have hil := List.mem_range.1 hi
   obtain ⟨_, _, _, q⟩ := hY i hil
   exact q (fits_elem Try.underlying43 hf (List.mem_map.2 ⟨i, hi, rfl⟩))
theorem each_claim {n : Nat} {cs : List Value} {y : DataW H × List MemPlace} (h : DataW.trod enc Try.prog W base spare held n 45 cs = some y) : ∃ (x : Cl) (m : Value), cs = [.string (mk x.id), .string (mk x.mem), .string (mk x.fam), .int .i64 x.net, .int .i64 x.does, .string (mk x.ref), m] ∧ LnsAt All W m x.lines ∧ (Fits y.1 45 → ClOk x) := by
 obtain ⟨xs, n', _, rfl, hlen, hxl, hf⟩ := DataW.trod_struct Try.underlying45 h
 rw [cC] at hlen
 match xs, hxl, cs, hlen with
 | [y0, y1, y2, y3, y4, y5, y6], _, [v0, v1, v2, v3, v4, v5, v6], _ =>
  have h0 : DataW.trod enc Try.prog W base spare held n' 9 ((([v0, v1, v2, v3, v4, v5, v6] : List Value).drop 0).take (Try.prog.cellsOf 9)) = some y0 := hf 0 _ rfl
  have h1 : DataW.trod enc Try.prog W base spare held n' 9 ((([v0, v1, v2, v3, v4, v5, v6] : List Value).drop 1).take (Try.prog.cellsOf 9)) = some y1 := hf 1 _ rfl
  have h2 : DataW.trod enc Try.prog W base spare held n' 9 ((([v0, v1, v2, v3, v4, v5, v6] : List Value).drop 2).take (Try.prog.cellsOf 9)) = some y2 := hf 2 _ rfl
  have h3 : DataW.trod enc Try.prog W base spare held n' 3 ((([v0, v1, v2, v3, v4, v5, v6] : List Value).drop 3).take (Try.prog.cellsOf 3)) = some y3 := hf 3 _ rfl
  have h4 : DataW.trod enc Try.prog W base spare held n' 3 ((([v0, v1, v2, v3, v4, v5, v6] : List Value).drop 4).take (Try.prog.cellsOf 3)) = some y4 := hf 4 _ rfl
  have h5 : DataW.trod enc Try.prog W base spare held n' 9 ((([v0, v1, v2, v3, v4, v5, v6] : List Value).drop 5).take (Try.prog.cellsOf 9)) = some y5 := hf 5 _ rfl
  have h6 : DataW.trod enc Try.prog W base spare held n' 43 ((([v0, v1, v2, v3, v4, v5, v6] : List Value).drop 6).take (Try.prog.cellsOf 43)) = some y6 := hf 6 _ rfl
  rw [c9] at h0 h1 h2 h5
  rw [cI] at h3 h4
  rw [cLs] at h6
  obtain ⟨a0, rfl, k0⟩ := each_tx (y := y0) (by simpa using h0)
  obtain ⟨a1, rfl, k1⟩ := each_tx (y := y1) (by simpa using h1)
  obtain ⟨a2, rfl, k2⟩ := each_tx (y := y2) (by simpa using h2)
  obtain ⟨a3, rfl, i3⟩ := each_int (y := y3) (by simpa using h3)
  obtain ⟨a4, rfl, i4⟩ := each_int (y := y4) (by simpa using h4)
  obtain ⟨a5, rfl, k5⟩ := each_tx (y := y5) (by simpa using h5)
  obtain ⟨a6, t6, k6⟩ := open_lines (y := y6) (by simpa using h6)
  refine ⟨⟨a0, a1, a2, a3, a4, a5, a6⟩, v6, rfl, t6, fun hfit => ?_⟩
  have q0 := fits_part Try.underlying45 hfit 0 _ rfl rfl rfl
  have q1 := fits_part Try.underlying45 hfit 1 _ rfl rfl rfl
  have q2 := fits_part Try.underlying45 hfit 2 _ rfl rfl rfl
  have q5 := fits_part Try.underlying45 hfit 5 _ rfl rfl rfl
  have q6 := fits_part Try.underlying45 hfit 6 _ rfl rfl rfl
  exact ⟨i3, i4, k0 q0, k1 q1, k2 q2, k5 q5, (k6 q6).1, (k6 q6).2⟩
theorem each_out {n : Nat} {cs : List Value} {y : DataW H × List MemPlace} (h : DataW.trod enc Try.prog W base spare held n 50 cs = some y) : ∃ x : Ot, cs = [.int .i64 x.al, .int .i64 x.de, .int .i64 x.cp, .int .i64 x.cn, .int .i64 x.plan, .int .i64 x.wr, .int .i64 x.pr, .int .i64 x.deny] := by
 obtain ⟨xs, n', _, rfl, hlen, hxl, hf⟩ := DataW.trod_struct Try.underlying50 h
 rw [show Try.prog.cellsOf 50 = 8 by kernel_rfl] at hlen
 match xs, hxl, cs, hlen with
 | [y0, y1, y2, y3, y4, y5, y6, y7], _, [v0, v1, v2, v3, v4, v5, v6, v7], _ =>
  have h0 : DataW.trod enc Try.prog W base spare held n' 2 ((([v0, v1, v2, v3, v4, v5, v6, v7] : List Value).drop 0).take (Try.prog.cellsOf 2)) = some y0 := hf 0 _ rfl
  rw [show Try.prog.cellsOf 2 = 1 by kernel_rfl] at h0
  have h1 : DataW.trod enc Try.prog W base spare held n' 2 ((([v0, v1, v2, v3, v4, v5, v6, v7] : List Value).drop 1).take (Try.prog.cellsOf 2)) = some y1 := hf 1 _ rfl
  rw [show Try.prog.cellsOf 2 = 1 by kernel_rfl] at h1
  have h2 : DataW.trod enc Try.prog W base spare held n' 2 ((([v0, v1, v2, v3, v4, v5, v6, v7] : List Value).drop 2).take (Try.prog.cellsOf 2)) = some y2 := hf 2 _ rfl
  rw [show Try.prog.cellsOf 2 = 1 by kernel_rfl] at h2
  have h3 : DataW.trod enc Try.prog W base spare held n' 2 ((([v0, v1, v2, v3, v4, v5, v6, v7] : List Value).drop 3).take (Try.prog.cellsOf 2)) = some y3 := hf 3 _ rfl
  rw [show Try.prog.cellsOf 2 = 1 by kernel_rfl] at h3
  have h4 : DataW.trod enc Try.prog W base spare held n' 2 ((([v0, v1, v2, v3, v4, v5, v6, v7] : List Value).drop 4).take (Try.prog.cellsOf 2)) = some y4 := hf 4 _ rfl
  rw [show Try.prog.cellsOf 2 = 1 by kernel_rfl] at h4
  have h5 : DataW.trod enc Try.prog W base spare held n' 2 ((([v0, v1, v2, v3, v4, v5, v6, v7] : List Value).drop 5).take (Try.prog.cellsOf 2)) = some y5 := hf 5 _ rfl
  rw [show Try.prog.cellsOf 2 = 1 by kernel_rfl] at h5
  have h6 : DataW.trod enc Try.prog W base spare held n' 2 ((([v0, v1, v2, v3, v4, v5, v6, v7] : List Value).drop 6).take (Try.prog.cellsOf 2)) = some y6 := hf 6 _ rfl
  rw [show Try.prog.cellsOf 2 = 1 by kernel_rfl] at h6
  have h7 : DataW.trod enc Try.prog W base spare held n' 3 ((([v0, v1, v2, v3, v4, v5, v6, v7] : List Value).drop 7).take (Try.prog.cellsOf 3)) = some y7 := hf 7 _ rfl
  rw [show Try.prog.cellsOf 3 = 1 by kernel_rfl] at h7
  obtain ⟨a0, rfl, i0⟩ := each_i64 (y := y0) (by simpa using h0)
  obtain ⟨a1, rfl, i1⟩ := each_i64 (y := y1) (by simpa using h1)
  obtain ⟨a2, rfl, i2⟩ := each_i64 (y := y2) (by simpa using h2)
  obtain ⟨a3, rfl, i3⟩ := each_i64 (y := y3) (by simpa using h3)
  obtain ⟨a4, rfl, i4⟩ := each_i64 (y := y4) (by simpa using h4)
  obtain ⟨a5, rfl, i5⟩ := each_i64 (y := y5) (by simpa using h5)
  obtain ⟨a6, rfl, i6⟩ := each_i64 (y := y6) (by simpa using h6)
  obtain ⟨a7, rfl, i7⟩ := each_int (y := y7) (by simpa using h7)
  exact ⟨⟨a0, a1, a2, a3, a4, a5, a6, a7⟩, rfl⟩
theorem open_outs {fuel : Nat} {v : Value} {y : DataW H × List MemPlace} (h : DataW.trod enc Try.prog W base spare held fuel 46 [v] = some y) : ∃ xs : List Ot, OtsAt All W v xs ∧ (Fits y.1 46 → xs.length ≤ 281474976710656) := by
 rcases open_slice Try.underlying46 h with ⟨h0, _⟩ | ⟨a, len, cap, m, n, D, Pl, hv, hb, hl, hm, hmm, rfl, hx⟩
 ·obtain rfl : v = .slice none 0 0 := by simpa using h0
  exact ⟨[], OtsAt.nil _ _, fun _ => by simp⟩
 ·obtain rfl : v = .slice (some a) len cap := by simpa using hv
  have hlm : len ≤ m := by rw [hmm]; split <;> omega
  rw [show Try.prog.cellsOf 50 = 8 by kernel_rfl] at hx
  obtain ⟨Y, hY⟩ := @choose_lt Ot ⟨⟨0, 0, 0, 0, 0, 0, 0, 0⟩⟩ len (fun i y => (∀ r, r < 8 → W.cell? ((a.add (i * 8)).add r) = [.int .i64 y.al, .int .i64 y.de, .int .i64 y.cp, .int .i64 y.cn, .int .i64 y.plan, .int .i64 y.wr, .int .i64 y.pr, .int .i64 y.deny][r]?)) (fun i hi => by
   obtain ⟨cs', g1, g2⟩ := hx i (by omega)
   obtain ⟨x, rfl⟩ := each_out g2
   obtain ⟨_, _, hcell⟩ := World.cells?_some g1
   exact ⟨x, fun r hr => hcell r hr⟩)
  have hxl : ((List.range len).map Y).length = len := by simp
  refine ⟨(List.range len).map Y, ⟨some a, cap, by rw [hxl], by rw [hxl]; exact hl, hm, ?_⟩, fun hf => ?_⟩
  ·rcases Nat.eq_zero_or_pos len with h0 | h0
   ·subst h0; exact Or.inl rfl
   ·obtain ⟨b, o, sp⟩ := a
    have hc00 := hY 0 h0 0 (by omega)
    have hsp : sp = none := by
     have := World.cell?_spot (v := .int .i64 (Y 0).al) hc00
     simpa [Addr.add] using this
    subst hsp
    rw [addOff, addOff] at hc00
    refine Or.inr ⟨b, o, rfl, trivial, World.block_lt_of_cell? W _ hc00, fun j x hj => ?_⟩
    have hjl : j < len := by have := (List.getElem?_eq_some_iff.1 hj).1; simpa using this
    rw [List.getElem?_map, List.getElem?_range hjl] at hj
    obtain rfl := Option.some.inj hj
    have e : ∀ r, r < 8 → W.cell? ⟨b, o + j * 8 + r, none⟩ = [.int .i64 (Y j).al, .int .i64 (Y j).de, .int .i64 (Y j).cp, .int .i64 (Y j).cn, .int .i64 (Y j).plan, .int .i64 (Y j).wr, .int .i64 (Y j).pr, .int .i64 (Y j).deny][r]? := fun r hr => by
     have := hY j hjl r hr
     rwa [addOff, addOff] at this
    exact ⟨e 0 (by omega), e 1 (by omega), e 2 (by omega), e 3 (by omega), e 4 (by omega), e 5 (by omega), e 6 (by omega), e 7 (by omega)⟩
  ·have := fits_len Try.underlying46 hf (by decide +kernel)
   simpa using this
def OpA (c : Ca) : Prop := Sv.I64 c.ct ∧ c.grp.length ≤ 281474976710656
def OpS (s : Sr) : Prop := Sv.SrOk s ∧ Sv.LenS s
def OpC (x : Cp) : Prop := Sv.CpOk x ∧ Sv.LenC x
theorem each_cas {n : Nat} {cs : List Value} {y : DataW H × List MemPlace} (h : DataW.trod enc Try.prog W base spare held n 72 cs = some y) : ∃ (x : Ca), cs = [.string (mk x.grp), .int .i64 x.why, .int .i64 x.ct] ∧ (Fits y.1 72 → OpA x) := by
 obtain ⟨xs, n', _, rfl, hlen, hxl, hf⟩ := DataW.trod_struct Try.underlying72 h
 rw [show Try.prog.cellsOf 72 = 3 by kernel_rfl] at hlen
 match xs, hxl, cs, hlen with
 | [y0, y1, y2], _, [v0, v1, v2], _ =>
  have h0 : DataW.trod enc Try.prog W base spare held n' 9 ((([v0, v1, v2] : List Value).drop 0).take (Try.prog.cellsOf 9)) = some y0 := hf 0 _ rfl
  rw [show Try.prog.cellsOf 9 = 1 by kernel_rfl] at h0
  have h1 : DataW.trod enc Try.prog W base spare held n' 3 ((([v0, v1, v2] : List Value).drop 1).take (Try.prog.cellsOf 3)) = some y1 := hf 1 _ rfl
  rw [show Try.prog.cellsOf 3 = 1 by kernel_rfl] at h1
  have h2 : DataW.trod enc Try.prog W base spare held n' 2 ((([v0, v1, v2] : List Value).drop 2).take (Try.prog.cellsOf 2)) = some y2 := hf 2 _ rfl
  rw [show Try.prog.cellsOf 2 = 1 by kernel_rfl] at h2
  obtain ⟨a0, rfl, k0⟩ := each_tx (y := y0) (by simpa using h0)
  obtain ⟨a1, rfl, i1⟩ := each_int (y := y1) (by simpa using h1)
  obtain ⟨a2, rfl, i2⟩ := each_i64 (y := y2) (by simpa using h2)
  refine ⟨⟨a0, a1, a2⟩, rfl, fun hfit => ?_⟩
  have q0 := fits_part Try.underlying72 hfit 0 _ rfl rfl rfl
  exact ⟨i2, k0 q0⟩
theorem open_cases {fuel : Nat} {v : Value} {y : DataW H × List MemPlace} (h : DataW.trod enc Try.prog W base spare held fuel 68 [v] = some y) : ∃ xs : List Ca, CasAt All W v xs ∧ (Fits y.1 68 → xs.length ≤ 281474976710656 ∧ ∀ x ∈ xs, OpA x) := by
 rcases open_slice Try.underlying68 h with ⟨h0, _⟩ | ⟨a, len, cap, m, n, D, Pl, hv, hb, hl, hm, hmm, rfl, hx⟩
 ·obtain rfl : v = .slice none 0 0 := by simpa using h0
  exact ⟨[], CasAt.nil _ _, fun _ => by simp⟩
 ·obtain rfl : v = .slice (some a) len cap := by simpa using hv
  have hlm : len ≤ m := by rw [hmm]; split <;> omega
  rw [show Try.prog.cellsOf 72 = 3 by kernel_rfl] at hx
  obtain ⟨Y, hY⟩ := @choose_lt Ca ⟨⟨[], 0, 0⟩⟩ len (fun i y => (∀ r, r < 3 → W.cell? ((a.add (i * 3)).add r) = [.string (mk y.grp), .int .i64 y.why, .int .i64 y.ct][r]?) ∧ (Fits (D i) 72 → OpA y)) (fun i hi => by
   obtain ⟨cs', g1, g2⟩ := hx i (by omega)
   obtain ⟨x, rfl, q2⟩ := each_cas g2
   obtain ⟨_, _, hcell⟩ := World.cells?_some g1
   exact ⟨x, fun r hr => hcell r hr, q2⟩)
  have hxl : ((List.range len).map Y).length = len := by simp
  refine ⟨(List.range len).map Y, ⟨some a, cap, by rw [hxl], by rw [hxl]; exact hl, hm, ?_⟩, fun hf => ⟨?_, fun x hx1 => ?_⟩⟩
  ·rcases Nat.eq_zero_or_pos len with h0 | h0
   ·subst h0; exact Or.inl rfl
   ·obtain ⟨b, o, sp⟩ := a
    obtain ⟨hc0, -⟩ := hY 0 h0
    have hc00 := hc0 0 (by omega)
    have hsp : sp = none := by
     have := World.cell?_spot hc00
     simpa [Addr.add] using this
    subst hsp
    rw [addOff, addOff] at hc00
    refine Or.inr ⟨b, o, rfl, trivial, World.block_lt_of_cell? W _ hc00, fun j x hj => ?_⟩
    have hjl : j < len := by have := (List.getElem?_eq_some_iff.1 hj).1; simpa using this
    rw [List.getElem?_map, List.getElem?_range hjl] at hj
    obtain rfl := Option.some.inj hj
    obtain ⟨hc, -⟩ := hY j hjl
    have e : ∀ r, r < 3 → W.cell? ⟨b, o + j * 3 + r, none⟩ = [.string (mk (Y j).grp), .int .i64 (Y j).why, .int .i64 (Y j).ct][r]? := fun r hr => by
     have := hc r hr
     rwa [addOff, addOff] at this
    exact ⟨e 0 (by omega), e 1 (by omega), e 2 (by omega)⟩
  ·have := fits_len Try.underlying68 hf (by decide +kernel)
   simpa using this
  ·obtain ⟨i, hi, rfl⟩ := List.mem_map.1 hx1
   have hil := List.mem_range.1 hi
   obtain ⟨_, q⟩ := hY i hil
   exact q (fits_elem Try.underlying68 hf (List.mem_map.2 ⟨i, hi, rfl⟩))
theorem each_svc {n : Nat} {cs : List Value} {y : DataW H × List MemPlace} (h : DataW.trod enc Try.prog W base spare held n 70 cs = some y) : ∃ (x : Sr) (m : Value), cs = [.string (mk x.proc), .int .i64 x.bi, .int .i64 x.paid, m] ∧ CasAt All W m x.cas ∧ (Fits y.1 70 → OpS x) := by
 obtain ⟨xs, n', _, rfl, hlen, hxl, hf⟩ := DataW.trod_struct Try.underlying70 h
 rw [show Try.prog.cellsOf 70 = 4 by kernel_rfl] at hlen
 match xs, hxl, cs, hlen with
 | [y0, y1, y2, y3], _, [v0, v1, v2, v3], _ =>
  have h0 : DataW.trod enc Try.prog W base spare held n' 9 ((([v0, v1, v2, v3] : List Value).drop 0).take (Try.prog.cellsOf 9)) = some y0 := hf 0 _ rfl
  rw [show Try.prog.cellsOf 9 = 1 by kernel_rfl] at h0
  have h1 : DataW.trod enc Try.prog W base spare held n' 2 ((([v0, v1, v2, v3] : List Value).drop 1).take (Try.prog.cellsOf 2)) = some y1 := hf 1 _ rfl
  rw [show Try.prog.cellsOf 2 = 1 by kernel_rfl] at h1
  have h2 : DataW.trod enc Try.prog W base spare held n' 2 ((([v0, v1, v2, v3] : List Value).drop 2).take (Try.prog.cellsOf 2)) = some y2 := hf 2 _ rfl
  rw [show Try.prog.cellsOf 2 = 1 by kernel_rfl] at h2
  have h3 : DataW.trod enc Try.prog W base spare held n' 68 ((([v0, v1, v2, v3] : List Value).drop 3).take (Try.prog.cellsOf 68)) = some y3 := hf 3 _ rfl
  rw [show Try.prog.cellsOf 68 = 1 by kernel_rfl] at h3
  obtain ⟨a0, rfl, k0⟩ := each_tx (y := y0) (by simpa using h0)
  obtain ⟨a1, rfl, i1⟩ := each_i64 (y := y1) (by simpa using h1)
  obtain ⟨a2, rfl, i2⟩ := each_i64 (y := y2) (by simpa using h2)
  obtain ⟨a3, t3, k3⟩ := open_cases (y := y3) (by simpa using h3)
  refine ⟨⟨a0, a1, a2, a3⟩, v3, rfl, t3, fun hfit => ?_⟩
  have q0 := fits_part Try.underlying70 hfit 0 _ rfl rfl rfl
  have q3 := fits_part Try.underlying70 hfit 3 _ rfl rfl rfl
  exact ⟨⟨i1, i2, fun c hc => ((k3 q3).2 c hc).1, k0 q0⟩, k0 q0, (k3 q3).1, fun c hc => ((k3 q3).2 c hc).2⟩
theorem open_svcs {fuel : Nat} {v : Value} {y : DataW H × List MemPlace} (h : DataW.trod enc Try.prog W base spare held fuel 36 [v] = some y) : ∃ xs : List Sr, SvsAt All W v xs ∧ (Fits y.1 36 → xs.length ≤ 281474976710656 ∧ ∀ x ∈ xs, OpS x) := by
 rcases open_slice Try.underlying36 h with ⟨h0, _⟩ | ⟨a, len, cap, m, n, D, Pl, hv, hb, hl, hm, hmm, rfl, hx⟩
 ·obtain rfl : v = .slice none 0 0 := by simpa using h0
  exact ⟨[], SvsAt.nil _ _, fun _ => by simp⟩
 ·obtain rfl : v = .slice (some a) len cap := by simpa using hv
  have hlm : len ≤ m := by rw [hmm]; split <;> omega
  rw [show Try.prog.cellsOf 70 = 4 by kernel_rfl] at hx
  obtain ⟨Y, hY⟩ := @choose_lt Sr ⟨⟨[], 0, 0, []⟩⟩ len (fun i y => ∃ mv, (∀ r, r < 4 → W.cell? ((a.add (i * 4)).add r) = [.string (mk y.proc), .int .i64 y.bi, .int .i64 y.paid, mv][r]?) ∧ CasAt All W mv y.cas ∧ (Fits (D i) 70 → OpS y)) (fun i hi => by
   obtain ⟨cs', g1, g2⟩ := hx i (by omega)
   obtain ⟨x, mv, rfl, q1, q2⟩ := each_svc g2
   obtain ⟨_, _, hcell⟩ := World.cells?_some g1
   exact ⟨x, mv, fun r hr => hcell r hr, q1, q2⟩)
  have hxl : ((List.range len).map Y).length = len := by simp
  refine ⟨(List.range len).map Y, ⟨some a, cap, by rw [hxl], by rw [hxl]; exact hl, hm, ?_⟩, fun hf => ⟨?_, fun x hx1 => ?_⟩⟩
  ·rcases Nat.eq_zero_or_pos len with h0 | h0
   ·subst h0; exact Or.inl rfl
   ·obtain ⟨b, o, sp⟩ := a
    obtain ⟨mv0, hc0, -, -⟩ := hY 0 h0
    have hc00 := hc0 0 (by omega)
    have hsp : sp = none := by
     have := World.cell?_spot hc00
     simpa [Addr.add] using this
    subst hsp
    rw [addOff, addOff] at hc00
    refine Or.inr ⟨b, o, rfl, trivial, World.block_lt_of_cell? W _ hc00, fun j x hj => ?_⟩
    have hjl : j < len := by have := (List.getElem?_eq_some_iff.1 hj).1; simpa using this
    rw [List.getElem?_map, List.getElem?_range hjl] at hj
    obtain rfl := Option.some.inj hj
    obtain ⟨mv, hc, ht, -⟩ := hY j hjl
    have e : ∀ r, r < 4 → W.cell? ⟨b, o + j * 4 + r, none⟩ = [.string (mk (Y j).proc), .int .i64 (Y j).bi, .int .i64 (Y j).paid, mv][r]? := fun r hr => by
     have := hc r hr
     rwa [addOff, addOff] at this
    exact ⟨mv, ⟨e 0 (by omega), e 1 (by omega), e 2 (by omega), e 3 (by omega)⟩, ht⟩
  ·have := fits_len Try.underlying36 hf (by decide +kernel)
   simpa using this
  ·obtain ⟨i, hi, rfl⟩ := List.mem_map.1 hx1
   have hil := List.mem_range.1 hi
   obtain ⟨_, _, _, q⟩ := hY i hil
   exact q (fits_elem Try.underlying36 hf (List.mem_map.2 ⟨i, hi, rfl⟩))
theorem each_clp {n : Nat} {cs : List Value} {y : DataW H × List MemPlace} (h : DataW.trod enc Try.prog W base spare held n 38 cs = some y) : ∃ (x : Cp) (m : Value), cs = [.string (mk x.id), .int .i64 x.st, .int .i64 x.bi, .int .i64 x.paid, .int .i64 x.mem, m] ∧ SvsAt All W m x.svs ∧ (Fits y.1 38 → OpC x) := by
 obtain ⟨xs, n', _, rfl, hlen, hxl, hf⟩ := DataW.trod_struct Try.underlying38 h
 rw [show Try.prog.cellsOf 38 = 6 by kernel_rfl] at hlen
 match xs, hxl, cs, hlen with
 | [y0, y1, y2, y3, y4, y5], _, [v0, v1, v2, v3, v4, v5], _ =>
  have h0 : DataW.trod enc Try.prog W base spare held n' 9 ((([v0, v1, v2, v3, v4, v5] : List Value).drop 0).take (Try.prog.cellsOf 9)) = some y0 := hf 0 _ rfl
  rw [show Try.prog.cellsOf 9 = 1 by kernel_rfl] at h0
  have h1 : DataW.trod enc Try.prog W base spare held n' 3 ((([v0, v1, v2, v3, v4, v5] : List Value).drop 1).take (Try.prog.cellsOf 3)) = some y1 := hf 1 _ rfl
  rw [show Try.prog.cellsOf 3 = 1 by kernel_rfl] at h1
  have h2 : DataW.trod enc Try.prog W base spare held n' 2 ((([v0, v1, v2, v3, v4, v5] : List Value).drop 2).take (Try.prog.cellsOf 2)) = some y2 := hf 2 _ rfl
  rw [show Try.prog.cellsOf 2 = 1 by kernel_rfl] at h2
  have h3 : DataW.trod enc Try.prog W base spare held n' 2 ((([v0, v1, v2, v3, v4, v5] : List Value).drop 3).take (Try.prog.cellsOf 2)) = some y3 := hf 3 _ rfl
  rw [show Try.prog.cellsOf 2 = 1 by kernel_rfl] at h3
  have h4 : DataW.trod enc Try.prog W base spare held n' 2 ((([v0, v1, v2, v3, v4, v5] : List Value).drop 4).take (Try.prog.cellsOf 2)) = some y4 := hf 4 _ rfl
  rw [show Try.prog.cellsOf 2 = 1 by kernel_rfl] at h4
  have h5 : DataW.trod enc Try.prog W base spare held n' 36 ((([v0, v1, v2, v3, v4, v5] : List Value).drop 5).take (Try.prog.cellsOf 36)) = some y5 := hf 5 _ rfl
  rw [show Try.prog.cellsOf 36 = 1 by kernel_rfl] at h5
  obtain ⟨a0, rfl, k0⟩ := each_tx (y := y0) (by simpa using h0)
  obtain ⟨a1, rfl, i1⟩ := each_int (y := y1) (by simpa using h1)
  obtain ⟨a2, rfl, i2⟩ := each_i64 (y := y2) (by simpa using h2)
  obtain ⟨a3, rfl, i3⟩ := each_i64 (y := y3) (by simpa using h3)
  obtain ⟨a4, rfl, i4⟩ := each_i64 (y := y4) (by simpa using h4)
  obtain ⟨a5, t5, k5⟩ := open_svcs (y := y5) (by simpa using h5)
  refine ⟨⟨a0, a1, a2, a3, a4, a5⟩, v5, rfl, t5, fun hfit => ?_⟩
  have q0 := fits_part Try.underlying38 hfit 0 _ rfl rfl rfl
  have q5 := fits_part Try.underlying38 hfit 5 _ rfl rfl rfl
  exact ⟨⟨i1, i2, i3, i4, k0 q0, (k5 q5).1, fun s hs => ((k5 q5).2 s hs).1⟩, k0 q0, (k5 q5).1, fun s hs => ((k5 q5).2 s hs).2⟩
end Go.Proofs.Ytpfpjbeofogbgaa.So
end
section
set_option maxRecDepth 100000
namespace Go.Proofs.Ytpfpjbeofogbgaa.So
open Go.ChangeShapes Go.WideShapes Go.ChangeAt Go.RowKit Go.Deep
open Cm (Ln Cl ln0 cl0 LnsAt LnOk ClOk lnv clv I64)
open Sh (Ot)
open Bk (OtsAt En en0 EnsAt EnOk Cont EnCells)
open Sv (Ca Sr Cp CasAt SvsAt CpsAt)
open Re (Rm rmv)
variable {H : Type} {enc : TypeId × Value → H} {W : World} {base : Nat} {spare : Nat → Bool} {held : Bool}
theorem open_clps {fuel : Nat} {v : Value} {y : DataW H × List MemPlace} (h : DataW.trod enc Try.prog W base spare held fuel 22 [v] = some y) : ∃ xs : List Cp, CpsAt All W v xs ∧ (Fits y.1 22 → xs.length ≤ 281474976710656 ∧ ∀ x ∈ xs, OpC x) := by
 rcases open_slice Try.underlying22 h with ⟨h0, _⟩ | ⟨a, len, cap, m, n, D, Pl, hv, hb, hl, hm, hmm, rfl, hx⟩
 ·obtain rfl : v = .slice none 0 0 := by simpa using h0
  exact ⟨[], Re.cps_nil _ _, fun _ => by simp⟩
 ·obtain rfl : v = .slice (some a) len cap := by simpa using hv
  have hlm : len ≤ m := by rw [hmm]; split <;> omega
  rw [show Try.prog.cellsOf 38 = 6 by kernel_rfl] at hx
  obtain ⟨Y, hY⟩ := @choose_lt Cp ⟨Sv.cp0⟩ len (fun i y => ∃ mv, (∀ r, r < 6 → W.cell? ((a.add (i * 6)).add r) = [.string (mk y.id), .int .i64 y.st, .int .i64 y.bi, .int .i64 y.paid, .int .i64 y.mem, mv][r]?) ∧ SvsAt All W mv y.svs ∧ (Fits (D i) 38 → OpC y)) (fun i hi => by
   obtain ⟨cs', g1, g2⟩ := hx i (by omega)
   obtain ⟨x, mv, rfl, q1, q2⟩ := each_clp g2
   obtain ⟨_, _, hcell⟩ := World.cells?_some g1
   exact ⟨x, mv, fun r hr => hcell r hr, q1, q2⟩)
  have hxl : ((List.range len).map Y).length = len := by simp
  refine ⟨(List.range len).map Y, ⟨some a, cap, by rw [hxl], by rw [hxl]; exact hl, hm, ?_⟩, fun hf => ⟨?_, fun x hx1 => ?_⟩⟩
  ·rcases Nat.eq_zero_or_pos len with h0 | h0
   ·subst h0; exact Or.inl rfl
   ·obtain ⟨b, o, sp⟩ := a
    obtain ⟨mv0, hc0, -, -⟩ := hY 0 h0
    have hc00 := hc0 0 (by omega)
    have hsp : sp = none := by
     have := World.cell?_spot hc00
     simpa [Addr.add] using this
    subst hsp
    rw [addOff, addOff] at hc00
    refine Or.inr ⟨b, o, rfl, trivial, World.block_lt_of_cell? W _ hc00, fun j x hj => ?_⟩
    have hjl : j < len := by have := (List.getElem?_eq_some_iff.1 hj).1; simpa using this
    rw [List.getElem?_map, List.getElem?_range hjl] at hj
    obtain rfl := Option.some.inj hj
    obtain ⟨mv, hc, ht, -⟩ := hY j hjl
    have e : ∀ r, r < 6 → W.cell? ⟨b, o + j * 6 + r, none⟩ = [.string (mk (Y j).id), .int .i64 (Y j).st, .int .i64 (Y j).bi, .int .i64 (Y j).paid, .int .i64 (Y j).mem, mv][r]? := fun r hr => by
     have := hc r hr
     rwa [addOff, addOff] at this
    exact ⟨mv, ⟨e 0 (by omega), e 1 (by omega), e 2 (by omega), e 3 (by omega), e 4 (by omega), e 5 (by omega)⟩, ht⟩
  ·have := fits_len Try.underlying22 hf (by decide +kernel)
   simpa using this
  ·obtain ⟨i, hi, rfl⟩ := List.mem_map.1 hx1
   have hil := List.mem_range.1 hi
   obtain ⟨_, _, _, q⟩ := hY i hil
   exact q (fits_elem Try.underlying22 hf (List.mem_map.2 ⟨i, hi, rfl⟩))
theorem each_entry {n : Nat} {cs : List Value} {y : DataW H × List MemPlace} (h : DataW.trod enc Try.prog W base spare held n 48 cs = some y) : ∃ (x : En) (m mo : Value), cs = [.string (mk x.cl.id), .string (mk x.cl.mem), .string (mk x.cl.fam), .int .i64 x.cl.net, .int .i64 x.cl.does, .string (mk x.cl.ref), m, .int .i64 x.tb, .int .i64 x.st, mo] ∧ Cont All W ⟨x, m, mo⟩ ∧ (Fits y.1 48 → EnOk x) := by
 obtain ⟨xs, n', _, rfl, hlen, hxl, hf⟩ := DataW.trod_struct Try.underlying48 h
 rw [show Try.prog.cellsOf 48 = 10 by kernel_rfl] at hlen
 match xs, hxl, cs, hlen with
 | [y0, y1, y2, y3], _, [v0, v1, v2, v3, v4, v5, v6, v7, v8, v9], _ =>
  have h0 : DataW.trod enc Try.prog W base spare held n' 45 ((([v0, v1, v2, v3, v4, v5, v6, v7, v8, v9] : List Value).drop 0).take (Try.prog.cellsOf 45)) = some y0 := hf 0 _ rfl
  have h1 : DataW.trod enc Try.prog W base spare held n' 3 ((([v0, v1, v2, v3, v4, v5, v6, v7, v8, v9] : List Value).drop 7).take (Try.prog.cellsOf 3)) = some y1 := hf 1 _ rfl
  have h2 : DataW.trod enc Try.prog W base spare held n' 3 ((([v0, v1, v2, v3, v4, v5, v6, v7, v8, v9] : List Value).drop 8).take (Try.prog.cellsOf 3)) = some y2 := hf 2 _ rfl
  have h3 : DataW.trod enc Try.prog W base spare held n' 46 ((([v0, v1, v2, v3, v4, v5, v6, v7, v8, v9] : List Value).drop 9).take (Try.prog.cellsOf 46)) = some y3 := hf 3 _ rfl
  rw [show Try.prog.cellsOf 45 = 7 by kernel_rfl] at h0
  rw [cI] at h1 h2
  rw [show Try.prog.cellsOf 46 = 1 by kernel_rfl] at h3
  obtain ⟨a0, m, e0, t0, k0⟩ := each_claim (y := y0) (by simpa using h0)
  obtain ⟨a1, rfl, i1⟩ := each_int (y := y1) (by simpa using h1)
  obtain ⟨a2, rfl, i2⟩ := each_int (y := y2) (by simpa using h2)
  obtain ⟨a3, t3, k3⟩ := open_outs (y := y3) (by simpa using h3)
  simp only [List.cons.injEq, and_true] at e0
  obtain ⟨rfl, rfl, rfl, rfl, rfl, rfl, rfl⟩ := e0
  refine ⟨⟨a0, a1, a2, a3⟩, _, v9, rfl, ⟨t0, t3⟩, fun hfit => ?_⟩
  have q0 := fits_part Try.underlying48 hfit 0 _ rfl rfl rfl
  have q3 := fits_part Try.underlying48 hfit 3 _ rfl rfl rfl
  exact ⟨k0 q0, k3 q3⟩
theorem open_entries {fuel : Nat} {v : Value} {y : DataW H × List MemPlace} (h : DataW.trod enc Try.prog W base spare held fuel 23 [v] = some y) : ∃ xs : List En, EnsAt All W v xs ∧ (Fits y.1 23 → ∀ x ∈ xs, EnOk x) := by
 rcases open_slice Try.underlying23 h with ⟨h0, _⟩ | ⟨a, len, cap, m, n, D, Pl, hv, hb, hl, hm, hmm, rfl, hx⟩
 ·obtain rfl : v = .slice none 0 0 := by simpa using h0
  exact ⟨[], EnsAt.nil _ _, fun _ => by simp⟩
 ·obtain rfl : v = .slice (some a) len cap := by simpa using hv
  have hlm : len ≤ m := by rw [hmm]; split <;> omega
  rw [show Try.prog.cellsOf 48 = 10 by kernel_rfl] at hx
  obtain ⟨Y, hY⟩ := @choose_lt En ⟨en0⟩ len (fun i y => ∃ m mo, (∀ r, r < 10 → W.cell? ((a.add (i * 10)).add r) = [.string (mk y.cl.id), .string (mk y.cl.mem), .string (mk y.cl.fam), .int .i64 y.cl.net, .int .i64 y.cl.does, .string (mk y.cl.ref), m, .int .i64 y.tb, .int .i64 y.st, mo][r]?) ∧ Cont All W ⟨y, m, mo⟩ ∧ (Fits (D i) 48 → EnOk y)) (fun i hi => by
   obtain ⟨cs', g1, g2⟩ := hx i (by omega)
   obtain ⟨x, mv, mo, rfl, q1, q2⟩ := each_entry g2
   obtain ⟨_, _, hcell⟩ := World.cells?_some g1
   exact ⟨x, mv, mo, fun r hr => hcell r hr, q1, q2⟩)
  have hxl : ((List.range len).map Y).length = len := by simp
  refine ⟨(List.range len).map Y, ⟨some a, cap, by rw [hxl], by rw [hxl]; exact hl, hm, ?_⟩, fun hf x hx1 => ?_⟩
  ·rcases Nat.eq_zero_or_pos len with h0 | h0
   ·subst h0; exact Or.inl rfl
   ·obtain ⟨b, o, sp⟩ := a
    obtain ⟨mv0, mo0, hc0, -, -⟩ := hY 0 h0
    have hc00 := hc0 0 (by omega)
    have hsp : sp = none := by
     have := World.cell?_spot hc00
     simpa [Addr.add] using this
    subst hsp
    rw [addOff, addOff] at hc00
    refine Or.inr ⟨b, o, rfl, trivial, World.block_lt_of_cell? W _ hc00, fun j x hj => ?_⟩
    have hjl : j < len := by have := (List.getElem?_eq_some_iff.1 hj).1; simpa using this
    rw [List.getElem?_map, List.getElem?_range hjl] at hj
    obtain rfl := Option.some.inj hj
    obtain ⟨m, mo, hc, ht, -⟩ := hY j hjl
    refine ⟨m, mo, ?_, ht⟩
    have e : ∀ r, r < 10 → W.cell? ⟨b, o + j * 10 + r, none⟩ = [.string (mk (Y j).cl.id), .string (mk (Y j).cl.mem), .string (mk (Y j).cl.fam), .int .i64 (Y j).cl.net, .int .i64 (Y j).cl.does, .string (mk (Y j).cl.ref), m, .int .i64 (Y j).tb, .int .i64 (Y j).st, mo][r]? := fun r hr => by
     have := hc r hr
     rwa [addOff, addOff] at this
    exact ⟨e 0 (by omega), e 1 (by omega), e 2 (by omega), e 3 (by omega), e 4 (by omega), e 5 (by omega), e 6 (by omega), e 7 (by omega), e 8 (by omega), e 9 (by omega)⟩
  ·obtain ⟨i, hi, rfl⟩ := List.mem_map.1 hx1
   have hil := List.mem_range.1 hi
   obtain ⟨_, _, _, _, q⟩ := hY i hil
   exact q (fits_elem Try.underlying23 hf (List.mem_map.2 ⟨i, hi, rfl⟩))
theorem open_ens {v : Value} {d : DataW H} {p : List MemPlace} (hs : ∃ a n c, v = .slice a n c) (h : DataW.Trod enc Try.prog W base spare held 23 v d p) (hw : Fits d 23) : ∃ l : List En, EnsAt All W v l ∧ ∀ x ∈ l, EnOk x := by
 obtain ⟨a, n, c, rfl⟩ := hs
 obtain ⟨fuel, hf⟩ := h
 obtain ⟨xs, h1, h2⟩ := open_entries (v := .slice a n c) (by simpa [Value.cells] using hf)
 exact ⟨xs, h1, h2 hw⟩
theorem open_cps {v : Value} {d : DataW H} {p : List MemPlace} (hs : ∃ a n c, v = .slice a n c) (h : DataW.Trod enc Try.prog W base spare held 22 v d p) (hw : Fits d 22) : ∃ l : List Cp, CpsAt All W v l ∧ l.length ≤ 281474976710656 ∧ ∀ x ∈ l, OpC x := by
 obtain ⟨a, n, c, rfl⟩ := hs
 obtain ⟨fuel, hf⟩ := h
 obtain ⟨xs, h1, h2⟩ := open_clps (v := .slice a n c) (by simpa [Value.cells] using hf)
 exact ⟨xs, h1, h2 hw⟩
end Go.Proofs.Ytpfpjbeofogbgaa.So
end
