/-
  A claim's first services and the others, in memory; a block of so many cells that is written whole. (Written by gen_parts.py.)
-/
import Derived.Test.YtpnkgkchpoehcaaVSmall
import Derived.Test.YtpnkgkchpoehcaaVOf
set_option linter.unusedSimpArgs false
set_option linter.unusedVariables false
set_option maxRecDepth 100000
namespace Go.Proofs.Ytpnkgkchpoehcaa.Sv
open Go.RowKit
open Sh (Ot)
open Cm (Ln Cl LnsAt LnOk clv ClOk)
open Bk (keepB below_alloc below_trans alloc_new heap_set heap_far OtsAt)

theorem lns_take {w : World} {a : Option Addr} {n c : Nat} {l : List Ln} (h : LnsAt All w (.slice a n c) l) {i : Nat} (hi : i ≤ l.length) : LnsAt All w (.slice a i c) (l.take i) := by
  obtain ⟨a', c', he, h1, h2, h3⟩ := h
  obtain ⟨rfl, -, rfl⟩ : a = a' ∧ n = l.length ∧ c = c' := by injection he with e1 e2 e3; exact ⟨e1, e2, e3⟩
  have hl : (l.take i).length = i := by rw [List.length_take]; omega
  refine ⟨a, c, by rw [hl], by omega, h2, ?_⟩
  rcases h3 with h | ⟨b, o, ha, hk, hb, hc⟩
  · subst h; exact Or.inl (by simp)
  · exact Or.inr ⟨b, o, ha, hk, hb, fun j x hj => hc j x (by rw [List.getElem?_take] at hj; split at hj; exact hj; cases hj)⟩
theorem lns_drop {w : World} {b o n c : Nat} {l : List Ln} (h : LnsAt All w (.slice (some ⟨b, o, none⟩) n c) l) {i : Nat} (hi : i ≤ l.length) : LnsAt All w (.slice (some ⟨b, o + i * 6, none⟩) (l.length - i) (c - i)) (l.drop i) := by
  obtain ⟨a', c', he, h1, h2, h3⟩ := h
  obtain ⟨rfl, -, rfl⟩ : some ⟨b, o, none⟩ = a' ∧ n = l.length ∧ c = c' := by injection he with e1 e2 e3; exact ⟨e1, e2, e3⟩
  have hl : (l.drop i).length = l.length - i := List.length_drop
  refine ⟨_, c - i, by rw [hl], by omega, by omega, ?_⟩
  rcases h3 with h | ⟨b', o', ha, hk, hb, hc⟩
  · subst h; exact Or.inl (by simp)
  · simp only [Option.some.injEq, Addr.mk.injEq, and_true] at ha
    obtain ⟨rfl, rfl⟩ := ha
    refine Or.inr ⟨b, o + i * 6, rfl, hk, hb, fun j x hj => ?_⟩
    rw [List.getElem?_drop] at hj
    have := hc (i + j) x hj
    rw [show o + i * 6 + j * 6 = o + (i + j) * 6 by omega]
    exact this
theorem ots_take {w : World} {a : Option Addr} {n c : Nat} {l : List Ot} (h : OtsAt All w (.slice a n c) l) {i : Nat} (hi : i ≤ l.length) : OtsAt All w (.slice a i c) (l.take i) := by
  obtain ⟨a', c', he, h1, h2, h3⟩ := h
  obtain ⟨rfl, -, rfl⟩ : a = a' ∧ n = l.length ∧ c = c' := by injection he with e1 e2 e3; exact ⟨e1, e2, e3⟩
  have hl : (l.take i).length = i := by rw [List.length_take]; omega
  refine ⟨a, c, by rw [hl], by omega, h2, ?_⟩
  rcases h3 with h | ⟨b, o, ha, hk, hb, hc⟩
  · subst h; exact Or.inl (by simp)
  · exact Or.inr ⟨b, o, ha, hk, hb, fun j x hj => hc j x (by rw [List.getElem?_take] at hj; split at hj; exact hj; cases hj)⟩
theorem ots_drop {w : World} {b o n c : Nat} {l : List Ot} (h : OtsAt All w (.slice (some ⟨b, o, none⟩) n c) l) {i : Nat} (hi : i ≤ l.length) : OtsAt All w (.slice (some ⟨b, o + i * 8, none⟩) (l.length - i) (c - i)) (l.drop i) := by
  obtain ⟨a', c', he, h1, h2, h3⟩ := h
  obtain ⟨rfl, -, rfl⟩ : some ⟨b, o, none⟩ = a' ∧ n = l.length ∧ c = c' := by injection he with e1 e2 e3; exact ⟨e1, e2, e3⟩
  have hl : (l.drop i).length = l.length - i := List.length_drop
  refine ⟨_, c - i, by rw [hl], by omega, by omega, ?_⟩
  rcases h3 with h | ⟨b', o', ha, hk, hb, hc⟩
  · subst h; exact Or.inl (by simp)
  · simp only [Option.some.injEq, Addr.mk.injEq, and_true] at ha
    obtain ⟨rfl, rfl⟩ := ha
    refine Or.inr ⟨b, o + i * 8, rfl, hk, hb, fun j x hj => ?_⟩
    rw [List.getElem?_drop] at hj
    have := hc (i + j) x hj
    rw [show o + i * 8 + j * 8 = o + (i + j) * 8 by omega]
    exact this
theorem lns_some {w : World} {a : Option Addr} {n c : Nat} {l : List Ln} (h : LnsAt All w (.slice a n c) l) (hl : 0 < l.length) : ∃ b o, a = some ⟨b, o, none⟩ := by
  obtain ⟨a', c', he, -, -, h3⟩ := h
  obtain ⟨rfl, -, -⟩ : a = a' ∧ n = l.length ∧ c = c' := by injection he with e1 e2 e3; exact ⟨e1, e2, e3⟩
  rcases h3 with h | ⟨b, o, ha, -⟩
  · subst h; simp at hl
  · exact ⟨b, o, ha⟩
theorem ots_some {w : World} {a : Option Addr} {n c : Nat} {l : List Ot} (h : OtsAt All w (.slice a n c) l) (hl : 0 < l.length) : ∃ b o, a = some ⟨b, o, none⟩ := by
  obtain ⟨a', c', he, -, -, h3⟩ := h
  obtain ⟨rfl, -, -⟩ : a = a' ∧ n = l.length ∧ c = c' := by injection he with e1 e2 e3; exact ⟨e1, e2, e3⟩
  rcases h3 with h | ⟨b, o, ha, -⟩
  · subst h; simp at hl
  · exact ⟨b, o, ha⟩
theorem wrap_mod (a : Int) (n : Nat) (h : 0 < n) : ∃ K : Nat, (IntKind.u64.wrap a).tmod (n : Int) = (K : Int) ∧ K < n := by
  have h0 : 0 ≤ IntKind.u64.wrap a := by
    have : IntKind.u64.wrap a = a % 18446744073709551616 := by simp [IntKind.wrap, IntKind.signed, IntKind.bits]
    rw [this]
    omega
  have h1 := Int.tmod_nonneg (n : Int) h0
  have h2 : (IntKind.u64.wrap a).tmod (n : Int) < n := Int.tmod_lt_of_pos _ (by omega)
  exact ⟨((IntKind.u64.wrap a).tmod (n : Int)).toNat, by omega, by omega⟩
/-- The first services, and the others, as claims. -/
abbrev cTk (c : Cl) (k : Nat) : Cl := { c with lines := c.lines.take k }
abbrev cDr (c : Cl) (k : Nat) : Cl := { c with lines := c.lines.drop k }
theorem cut_ok {c : Cl} {os : List Ot} (hz : ClOk c) (hs : Sm c os) (k : Nat) : (ClOk (cTk c k) ∧ Sm (cTk c k) (os.take k)) ∧ ClOk (cDr c k) ∧ Sm (cDr c k) (os.drop k) := by
  obtain ⟨a, b, c1, d, e, f, g, i⟩ := hz
  refine ⟨⟨⟨a, b, c1, d, e, f, ?_, fun x hx => i x (List.mem_of_mem_take hx)⟩, fun l hl => hs.1 l (List.mem_of_mem_take hl), fun o ho => hs.2 o (List.mem_of_mem_take ho)⟩, ⟨a, b, c1, d, e, f, ?_, fun x hx => i x (List.mem_of_mem_drop hx)⟩, fun l hl => hs.1 l (List.mem_of_mem_drop hl), fun o ho => hs.2 o (List.mem_of_mem_drop ho)⟩
  · simp only [List.length_take]; omega
  · simp only [List.length_drop]; omega
/-- Of, where it comes to something: the claim, and nothing of what lies in memory. -/
theorem of_flat (c : Cl) (m : Value) (os : List Ot) (mo : Value) (w : World) (hm : LnsAt All w m c.lines) (ho : OtsAt All w mo os) (hz : ClOk c) (hs : Sm c os) (h0 : ofE c os = 0) :
    Calls Try.prog 10 #[clv c m, mo] w fun e w' => (∃ z : Option Addr × Nat, e = .returned (.tuple #[cpv (raw c os) (.slice z.1 (raw c os).svs.length z.2), .int .i64 0])) ∧ Below w.heap.size w w' := by
  refine (of_any c m os mo w hm ho hz hs).mono ?_
  rintro e w' ⟨⟨u, rfl, hu⟩, hb⟩
  rw [of_yes h0] at hu ⊢
  obtain ⟨a, q, rfl, -, -⟩ := hu.form
  exact ⟨⟨(a, q), by rw [h0]⟩, hb⟩
theorem frz7 {w : World} {b : Nat} {cs : Array Value} {T : TypeId} (h : w.heap[b]? = some (.cells cs T (0, 0))) : w.frozen? ⟨b, 0, none⟩ = false ∧ w.frozen? ⟨b, 1, none⟩ = false ∧ w.frozen? ⟨b, 2, none⟩ = false ∧ w.frozen? ⟨b, 3, none⟩ = false ∧ w.frozen? ⟨b, 4, none⟩ = false ∧ w.frozen? ⟨b, 5, none⟩ = false ∧ w.frozen? ⟨b, 6, none⟩ = false := by
  refine ⟨?_, ?_, ?_, ?_, ?_, ?_, ?_⟩ <;> simp [World.frozen?, h]
theorem put7_heap {W : World} {b : Nat} {c0 c1 c2 c3 c4 c5 c6 : Value} {T : TypeId} (h : W.heap[b]? = some (.cells #[c0, c1, c2, c3, c4, c5, c6] T (0, 0))) (a0 a1 a2 a3 a4 a5 a6 : Value) : (((((((W.setCell ⟨b, 0, none⟩ a0).setCell ⟨b, 1, none⟩ a1).setCell ⟨b, 2, none⟩ a2).setCell ⟨b, 3, none⟩ a3).setCell ⟨b, 4, none⟩ a4).setCell ⟨b, 5, none⟩ a5).setCell ⟨b, 6, none⟩ a6).heap[b]? = some (.cells #[a0, a1, a2, a3, a4, a5, a6] T (0, 0)) := by
  have h0 := heap_set h 0 a0
  have h1 := heap_set h0 1 a1
  have h2 := heap_set h1 2 a2
  have h3 := heap_set h2 3 a3
  have h4 := heap_set h3 4 a4
  have h5 := heap_set h4 5 a5
  have h6 := heap_set h5 6 a6
  rw [h6]; rfl
theorem put7_keep {W : World} {b q : Nat} (hne : b ≠ q) (a0 a1 a2 a3 a4 a5 a6 : Value) : (((((((W.setCell ⟨q, 0, none⟩ a0).setCell ⟨q, 1, none⟩ a1).setCell ⟨q, 2, none⟩ a2).setCell ⟨q, 3, none⟩ a3).setCell ⟨q, 4, none⟩ a4).setCell ⟨q, 5, none⟩ a5).setCell ⟨q, 6, none⟩ a6).heap[b]? = W.heap[b]? := by
  repeat rw [Below.heap_setCell _ _ _ _ hne]
theorem put7_below {B : Nat} {w W : World} (h : Below B w W) (b : Nat) (hb : B ≤ b) (a0 a1 a2 a3 a4 a5 a6 : Value) : Below B w (((((((W.setCell ⟨b, 0, none⟩ a0).setCell ⟨b, 1, none⟩ a1).setCell ⟨b, 2, none⟩ a2).setCell ⟨b, 3, none⟩ a3).setCell ⟨b, 4, none⟩ a4).setCell ⟨b, 5, none⟩ a5).setCell ⟨b, 6, none⟩ a6) :=
  ((((((h.setCell (p := ⟨b, 0, none⟩) hb a0).setCell (p := ⟨b, 1, none⟩) hb a1).setCell (p := ⟨b, 2, none⟩) hb a2).setCell (p := ⟨b, 3, none⟩) hb a3).setCell (p := ⟨b, 4, none⟩) hb a4).setCell (p := ⟨b, 5, none⟩) hb a5).setCell (p := ⟨b, 6, none⟩) hb a6
theorem arr7 {cs : Array Value} (h : cs.size = 7) : ∃ c0 c1 c2 c3 c4 c5 c6, cs = #[c0, c1, c2, c3, c4, c5, c6] := by
  obtain ⟨l⟩ := cs
  match l, h with
  | [c0, c1, c2, c3, c4, c5, c6], _ => exact ⟨c0, c1, c2, c3, c4, c5, c6, rfl⟩
theorem arr6 {cs : Array Value} (h : cs.size = 6) : ∃ c0 c1 c2 c3 c4 c5, cs = #[c0, c1, c2, c3, c4, c5] := by
  obtain ⟨l⟩ := cs
  match l, h with
  | [c0, c1, c2, c3, c4, c5], _ => exact ⟨c0, c1, c2, c3, c4, c5, rfl⟩
/-- A block of seven cells is one still, whatever block is written whole. -/
theorem put7_any {W : World} {a q : Nat} {cs : Array Value} {c0 c1 c2 c3 c4 c5 c6 : Value} {T U : TypeId} (h : W.heap[a]? = some (.cells cs T (0, 0))) (hs : cs.size = 7) (hq : W.heap[q]? = some (.cells #[c0, c1, c2, c3, c4, c5, c6] U (0, 0))) (a0 a1 a2 a3 a4 a5 a6 : Value) : ∃ ds : Array Value, ds.size = 7 ∧ (((((((W.setCell ⟨q, 0, none⟩ a0).setCell ⟨q, 1, none⟩ a1).setCell ⟨q, 2, none⟩ a2).setCell ⟨q, 3, none⟩ a3).setCell ⟨q, 4, none⟩ a4).setCell ⟨q, 5, none⟩ a5).setCell ⟨q, 6, none⟩ a6).heap[a]? = some (.cells ds T (0, 0)) := by
  by_cases e : a = q
  · subst e
    rw [hq] at h
    simp only [Option.some.injEq, Obj.cells.injEq] at h
    obtain ⟨-, rfl, -⟩ := h
    exact ⟨_, rfl, put7_heap hq a0 a1 a2 a3 a4 a5 a6⟩
  · exact ⟨cs, hs, (put7_keep e a0 a1 a2 a3 a4 a5 a6).trans h⟩
end Go.Proofs.Ytpnkgkchpoehcaa.Sv
